import Derived.Test.YtpdahhnjhggocabGreatDoorBun34
import Derived.Test.YtpdahhnjhggocabGreatDoorBun30
import Derived.Test.YtpdahhnjhggocabGreatDoorBun29
import Derived.Test.YtpdahhnjhggocabGreatDoorBun28
import Derived.Test.YtpdahhnjhggocabGreatDoorBun27
import Derived.Test.YtpdahhnjhggocabGreatDoorBun26
import Derived.Test.YtpdahhnjhggocabGreatDoorBun25
import Derived.Test.YtpdahhnjhggocabGreatDoorBun23
import Derived.Test.YtpdahhnjhggocabGreatDoorBun18
import Derived.Test.YtpdahhnjhggocabGreatDoorBun15
import Derived.Test.YtpdahhnjhggocabGreatDoorBun10
namespace Go.Proofs.YtpdahhnjhggocabGreatDoor
open Go.RowKit
def RdBox (R : Nat) (rest : ByteArray) (m : Nat) (W : World) : Prop := W.heap[R]? = some (.cells #[.string rest, .int .i64 (m : Int)] 162 (0, 0))
def flt (m : Nat) (code : Int) : Value := .iface 77 (.agg #[.int .i64 (m : Int), .int .i64 code])
set_option maxHeartbeats 400000 in
theorem fault_any {R m : Nat} {rest : ByteArray} {W : World} (h : RdBox R rest m W) (code : Int) : Calls Tryz.prog 231 #[.pointer (some ⟨R, 0, none⟩), .int .i64 code] W fun e w' => e = .returned (flt m code) ∧ w' = W := by
  have c1 := cell_of_block h 1
  simp only [List.getElem?_toArray, List.getElem?_cons_zero, List.getElem?_cons_succ] at c1
  go_enter Tryz.func231, Tryz.ntmps231
  go_wp2
  go_ret
  exact ⟨rfl, rfl⟩
def WordsPost (R n : Nat) (ls : List (List UInt8)) (w : World) (e : Ending) (w' : World) : Prop := w.grownBy w' (some R) ∧ match nextW n ls with
  | .ended m => e = .returned (.tuple #[.slice none 0 0, .nilIface]) ∧ RdBox R ⟨#[]⟩ m w'
  | .bad m => e = .returned (.tuple #[.slice none 0 0, flt m 1])
  | .words m x xs rest => ∃ a c r, e = .returned (.tuple #[.slice a (xs.length + 1) c, .nilIface]) ∧ textLines r.data.toList = rest ∧ r.size ≤ 1048576 ∧ RdBox R r m w' ∧ w'.ownsRow w.heap.size 9 1 (.slice a (xs.length + 1) c) (xs.length + 1) (strs (x :: xs))
def rdLen (R : Nat) (W : World) : Nat := match W.cell? ⟨R, 0, none⟩ with
  | some (.string s) => s.size
  | _ => 0
theorem RdBox.len {R m : Nat} {rest : ByteArray} {W : World} (h : RdBox R rest m W) : rdLen R W = rest.size := by
  have c0 := cell_of_block h 0
  simp only [List.getElem?_toArray, List.getElem?_cons_zero] at c0
  unfold rdLen; rw [c0]
def LoopRw (R n : Nat) (ls : List (List UInt8)) (w W : World) : Prop := ∃ (rest : ByteArray) (m : Nat), RdBox R rest (m + 1) W ∧ nextW m (textLines rest.data.toList) = nextW n ls ∧ rest.size ≤ 1048576 ∧ m + (textLines rest.data.toList).length = n + ls.length ∧ w.grownBy W (some R)
theorem RdBox.line {R m m' : Nat} {rest : ByteArray} {W : World} (h : RdBox R rest m W) : RdBox R rest m' (W.setCell ⟨R, 1, none⟩ (.int .i64 (m' : Int))) := by
  unfold RdBox at *
  rw [heap_setCell_same W R 1 _ _ _ h]; rfl
theorem RdBox.rest {R m : Nat} {rest rest' : ByteArray} {W : World} (h : RdBox R rest m W) : RdBox R rest' m (W.setCell ⟨R, 0, none⟩ (.string rest')) := by
  unfold RdBox at *
  rw [heap_setCell_same W R 0 _ _ _ h]; rfl
theorem RdBox.below {R m : Nat} {rest : ByteArray} {W W' : World} (h : RdBox R rest m W) (hb : Below W.heap.size W W') : RdBox R rest m W' := (hb.block R (Array.getElem?_eq_some_iff.1 h).1).trans h
theorem bytes_nil {s : ByteArray} (h : s.size = 0) : s = ⟨#[]⟩ := by
  cases s with
  | mk d => have : d = #[] := Array.eq_empty_of_size_eq_zero h; rw [this]
set_option maxHeartbeats 4000000 in
set_option maxRecDepth 100000 in
theorem words_any {R n : Nat} {rest : ByteArray} {w : World} (h : RdBox R rest n w) (hs : rest.size ≤ 1048576) (hn : n + (textLines rest.data.toList).length ≤ 1000000) : Calls Tryz.prog 174 #[.pointer (some ⟨R, 0, none⟩)] w fun e w' => WordsPost R n (textLines rest.data.toList) w e w' := by
  have c1 := cell_of_block h 1
  have f1 := frozen_of_block h 1
  simp only [List.getElem?_toArray, List.getElem?_cons_zero, List.getElem?_cons_succ] at c1
  have HL0 := hid_in (show LoopRw R n (textLines rest.data.toList) w (w.setCell ⟨R, 1, none⟩ (.int .i64 ((n + 1 : Nat) : Int))) from ⟨rest, n, h.line, rfl, hs, rfl, grown_setCell' w R 1 _⟩)
  have e1 : ((n + 1 : Nat) : Int) = (n : Int) + 1 := by omega
  rw [e1] at HL0
  generalize hls : textLines rest.data.toList = ls at *
  have hnl : n ≤ 1000000 := by omega
  clear h hs hls e1
  go_enter Tryz.func174, Tryz.ntmps174
  go_wp2
  go_loopw [] (fun wr => LoopRw R n ls w wr) (fun wr => rdLen R wr)
  case atStart => exact HL0.out
  case round =>
    clear HL0 c1 f1
    obtain ⟨rs, m, hB, hN, hsz, hml, hg⟩ := hrel
    have c0 := cell_of_block hB 0
    have c1 := cell_of_block hB 1
    have f0 := frozen_of_block hB 0
    have f1 := frozen_of_block hB 1
    simp only [List.getElem?_toArray, List.getElem?_cons_zero, List.getElem?_cons_succ] at c0 c1
    by_cases h0 : rs.size = 0
    · obtain rfl := bytes_nil h0
      have HO := hid_in (show WordsPost R n ls w (.returned (.tuple #[.slice none 0 0, .nilIface])) wr from ⟨hg, by rw [← hN]; exact ⟨rfl, hB⟩⟩)
      clear hB hN hml hg h0
      go_wp2
      go_ret2
      exact HO.out
    · have hne := ne_empty rs (by omega)
      have hnl0 : rs.data.toList ≠ [] := by
        intro e
        have : rs.data.toList.length = rs.size := by simp
        rw [e] at this; simp at this; omega
      have HC := strCut_any rs wr hsz
      have HBH := hid_in hB
      have HLW := hid_in hB.len
      clear hB
      go_wp2_with (go_at_call 229; refine HC.mono ?_)
      rintro e w2 ⟨x, y, bb, rfl, hcut, b2⟩
      have hlx := hcut.lines hnl0
      have hcl := hcut.len
      have hyl := hcut.lt hnl0
      have zx : x.data.toList.length = x.size := by simp
      have zy : y.data.toList.length = y.size := by simp
      have zr : rs.data.toList.length = rs.size := by simp
      rw [hlx] at hN hml
      have hB2 := HBH.out.below b2
      have hB3 := hB2.rest (rest' := y)
      have g3 := grown_trans (grown_trans hg (grown_of_below b2 (some R))) (grown_setCell' w2 R 0 (.string y))
      have d0 := cell_of_block hB2 0
      have k0 := frozen_of_block hB2 0
      simp only [List.getElem?_toArray, List.getElem?_cons_zero] at d0
      have HW := implWords_any x (w2.setCell ⟨R, 0, none⟩ (.string y)) (by omega)
      have hz3 := g3.size
      have HB3 := hid_in hB3
      have HG3 := hid_in g3
      have HNH := hid_in hN
      have HX := hid_in hlx
      have hmz : m ≤ 1000000 := by simp only [List.length_cons] at hml; omega
      clear HC hcut hlx hB2 hB3 g3 hN HBH c0 c1 f0 f1 hg b2 hnl0
      go_wp2_with (go_at_call 230; refine HW.mono ?_)
      rintro e w4 ⟨v, rfl, ho, b4⟩
      obtain ⟨wa, wc, rfl, _⟩ := own_form ho
      have hB4 := HB3.out.below b4
      have g4 := grown_trans HG3.out (grown_of_below b4 (some R))
      have hO4 := own_mono ho hz3
      clear HW HB3 HG3 ho d0 k0
      cases hc : cutL x.data.toList with
      | none =>
        simp only [hc, Option.isNone_none, Option.getD_none, List.length_nil] at hO4 ⊢
        have bx := (Below.refl w4.heap.size w4).alloc (Nat.le_refl _) (.cells #[.slice wa 0 wc, .bool true] 66)
        have hB5 := hB4.below bx
        have g5 := grown_trans g4 (grown_of_below bx (some R))
        have FA := fault_any hB5 1
        have HO := hid_in (show WordsPost R n ls w (.returned (.tuple #[.slice none 0 0, flt (m + 1) 1])) (w4.alloc (.cells #[.slice wa 0 wc, .bool true] 66)) from ⟨g5, by rw [← HNH.out, nextW_bad hc]⟩)
        clear hB4 hB5 g4 g5 hO4 HNH HX
        go_wp2_with (go_at_call 231; refine FA.mono ?_; rintro e w6 ⟨rfl, rfl⟩)
        go_ret2
        exact HO.out
      | some wl =>
        cases wl with
        | nil =>
          simp only [hc, Option.isNone_some, Option.getD_some, List.length_nil] at hO4 ⊢
          have bx := (Below.refl w4.heap.size w4).alloc (Nat.le_refl _) (.cells #[.slice wa 0 wc, .bool false] 66)
          have hB5 := hB4.below bx
          have g5 := grown_trans g4 (grown_of_below bx (some R))
          have c1 := cell_of_block hB5 1
          have f1 := frozen_of_block hB5 1
          simp only [List.getElem?_toArray, List.getElem?_cons_zero, List.getElem?_cons_succ] at c1
          have HO := hid_in (show LoopRw R n ls w ((w4.alloc (.cells #[.slice wa 0 wc, .bool false] 66)).setCell ⟨R, 1, none⟩ (.int .i64 ((m + 1 + 1 : Nat) : Int))) from ⟨y, m + 1, hB5.line, by rw [← HNH.out, nextW_blank hc], by omega, by simp only [List.length_cons] at hml; omega, grown_trans g5 (grown_setCell' _ R 1 _)⟩)
          have e2 : ((m + 1 + 1 : Nat) : Int) = ((m + 1 : Nat) : Int) + 1 := by omega
          rw [e2] at HO
          have hRl : rdLen R ((w4.alloc (.cells #[.slice wa 0 wc, .bool false] 66)).setCell ⟨R, 1, none⟩ (.int .i64 (((m + 1 : Nat) : Int) + 1))) = y.size := by rw [← e2]; exact (hB5.line (m' := m + 1 + 1)).len
          have HRL := hid_in hRl
          clear hB4 hB5 g4 g5 hO4 HNH HX hRl e2
          go_wp2
          go_roundw
          case rel => exact HO.out
          case measure =>
            have q := HRL.out
            rw [show ((m + 1 : Nat) : Int) = (m : Int) + 1 by omega] at q
            rw [q, HLW.out]
            omega
        | cons a ts =>
          simp only [hc, Option.isNone_some, Option.getD_some, List.length_cons] at hO4 ⊢
          have bx := (Below.refl w4.heap.size w4).alloc (Nat.le_refl _) (.cells #[.slice wa (ts.length + 1) wc, .bool false] 66)
          have hB5 := hB4.below bx
          have g5 := grown_trans g4 (grown_of_below bx (some R))
          have HO := hid_in (show WordsPost R n ls w (.returned (.tuple #[.slice wa (ts.length + 1) wc, .nilIface])) (w4.alloc (.cells #[.slice wa (ts.length + 1) wc, .bool false] 66)) from ⟨g5, by rw [← HNH.out, nextW_words hc]; exact ⟨wa, wc, y, rfl, rfl, by omega, hB5, own_below hO4 bx⟩⟩)
          clear hB4 hB5 g4 g5 hO4 HNH HX
          generalize ts.length = na at *
          have hna : ((na : Int) + 1 > 0) := by omega
          go_wp2
          go_ret2
          exact HO.out
end Go.Proofs.YtpdahhnjhggocabGreatDoor
namespace Go.Proofs.YtpdahhnjhggocabGreatDoor
open Go.RowKit
def BeginPost (done : List PBlock) (m : Nat) (x : List UInt8) (xs : List (List UInt8)) (w : World) (e : Ending) (w' : World) : Prop := Below w.heap.size w w' ∧ (((stepW done none x xs).1 ≠ 0 ∧ e = .returned (.tuple #[.agg #[.string ⟨#[]⟩, .string ⟨#[]⟩, .slice none 0 0], flt m (stepW done none x xs).1])) ∨ ((stepW done none x xs).1 = 0 ∧ ∃ nm, xs = [nm] ∧ e = .returned (.tuple #[.agg #[.string (keyOf x), .string (keyOf nm), .slice none 0 0], .nilIface])))
set_option maxHeartbeats 4000000 in
set_option maxRecDepth 100000 in
theorem begin_any {R m : Nat} {rest : ByteArray} {v : Value} {bs : List BAt} {wa : Option Addr} {wc : Nat} {x : List UInt8} {xs : List (List UInt8)} {w : World} (h : RdBox R rest m w) (hb : BlocksIn w v bs) (hl : bs.length ≤ 1048576) (hw : HasRow w (.slice wa (xs.length + 1) wc) (xs.length + 1) 1 (strs (x :: xs))) (h200 : ∀ y ∈ x :: xs, y.length ≤ 200) (hx7 : xs.length ≤ 7) : Calls Tryz.prog 175 #[.pointer (some ⟨R, 0, none⟩), v, .slice wa (xs.length + 1) wc] w fun e w' => BeginPost (bs.map BAt.plain) m x xs w e w' := by
  have b0 := (Below.refl w.heap.size w).alloc (Nat.le_refl _) (.cells #[.string ⟨#[]⟩, .string ⟨#[]⟩, .slice none 0 0] 64)
  have z0 := alloc_here w (.cells #[.string ⟨#[]⟩, .string ⟨#[]⟩, .slice none 0 0] 64)
  obtain ⟨va, vc, rfl⟩ := hb.1.form
  by_cases hx1 : xs.length = 1
  · match xs, hx1, hw, h200 with
    | [nm], _, hw, h200 =>
      obtain ⟨g, off, rfl, k0⟩ := hw.word 0 (by simp)
      obtain ⟨g', off', e', k1⟩ := hw.word 1 (by simp)
      cases e'
      simp only [List.getElem_cons_zero, List.getElem_cons_succ, Nat.add_zero] at k0 k1
      have l0 := World.block_lt_of_cell? _ _ k0
      have l1 := World.block_lt_of_cell? _ _ k1
      have i0 := (b0.cell l0).trans k0
      have i1 := (b0.cell l1).trans k1
      have hB0 := h.below b0
      have hb0 := hb.below b0
      have r0 := cell_of_block z0 0
      have r1 := cell_of_block z0 1
      have r2 := cell_of_block z0 2
      have q0 := frozen_of_block z0 0
      have q1 := frozen_of_block z0 1
      have q2 := frozen_of_block z0 2
      simp only [List.getElem?_toArray, List.getElem?_cons_zero, List.getElem?_cons_succ] at r0 r1 r2
      have hnm : (keyOf nm).size ≤ 1048576 := by
        have := h200 nm (by simp)
        show nm.toArray.size ≤ 1048576
        rw [List.size_toArray]; omega
      generalize hcode : headFault (bs.map BAt.plain) (keyOf x) (keyOf nm) = code
      have HO : ∀ W, Below w.heap.size w W → (code ≠ 0 → BeginPost (bs.map BAt.plain) m x [nm] w (.returned (.tuple #[.agg #[.string ⟨#[]⟩, .string ⟨#[]⟩, .slice none 0 0], flt m code])) W) ∧ (code = 0 → BeginPost (bs.map BAt.plain) m x [nm] w (.returned (.tuple #[.agg #[.string (keyOf x), .string (keyOf nm), .slice none 0 0], .nilIface])) W) := fun W hB => by
        constructor
        · intro hc
          exact ⟨hB, .inl (by rw [stepW_head, hcode]; exact ⟨hc, rfl⟩)⟩
        · intro hc
          exact ⟨hB, .inr (by rw [stepW_head, hcode]; exact ⟨hc, nm, rfl, rfl⟩)⟩
      have HOH := hid_in HO
      clear HO h hb hw h200 k0 k1 l0 l1 z0
      generalize hw1 : w.alloc (.cells #[.string ⟨#[]⟩, .string ⟨#[]⟩, .slice none 0 0] 64) = w1 at *
      have ew1 := hid_in hw1
      have hz1 : w1.heap.size = w.heap.size + 1 := by rw [← hw1]; simp
      clear hw1
      have HF : ∀ p : Gr w1, Calls Tryz.prog 130 #[.slice va bs.length vc, .string ⟨x.toArray⟩, .string ⟨nm.toArray⟩] p.u fun e w' => e = .returned (.int .i64 code) ∧ Below p.u.heap.size p.u w' := fun p => by
        have := headFault_any (keyOf x) (keyOf nm) (hb0.below p.h) hl hnm
        rw [hcode] at this
        exact this
      have u0 := fun p : Gr w1 => gr_cell i0 p
      have u1 := fun p : Gr w1 => gr_cell i1 p
      have HB0 := hid_in hB0
      have B0 := hid_in b0
      clear hb0 hcode hB0 b0
      generalize bs.length = nb at *
      go_enter Tryz.func175, Tryz.ntmps175
      go_upto_region 3 with fail
      rw [ew1.out]
      refine wp_region_gr (by kernel_rfl) (by kernel_rfl) ?_
      iterate 7 quiet_step (fail)
      quiet_step ((go_at_call 130; refine gr_of (HF _)))
      quiet_step (fail)
      refine wpQuiet_nil ?_
      rintro _ ⟨⟨wq, bq⟩, rfl⟩
      have B1 := B0.out.trans (bq.mono B0.out.size)
      have hBq := HB0.out.below bq
      have j0 := (bq.cell (World.block_lt_of_cell? _ _ i0)).trans i0
      have j1 := (bq.cell (World.block_lt_of_cell? _ _ i1)).trans i1
      have s0 := (bq.cell (World.block_lt_of_cell? _ _ r0)).trans r0
      have s1 := (bq.cell (World.block_lt_of_cell? _ _ r1)).trans r1
      have s2 := (bq.cell (World.block_lt_of_cell? _ _ r2)).trans r2
      have t0 := (bq.frozen (World.block_lt_of_cell? _ _ r0)).trans q0
      have t1 := (bq.frozen (World.block_lt_of_cell? _ _ r1)).trans q1
      have t2 := (bq.frozen (World.block_lt_of_cell? _ _ r2)).trans q2
      clear HF u0 u1 i0 i1 r0 r1 r2 q0 q1 q2
      by_cases hc : code = 0
      · subst hc
        clear hBq
        go_wp2
        go_region
        go_wp2
        exact bodyPost_ret (v := .tuple #[.agg #[.string ⟨x.toArray⟩, .string ⟨nm.toArray⟩, .slice none 0 0], .nilIface]) (by simp [results, Tryz.results175, go_sem, s0, s1, s2]) rfl ((HOH.out _ (Below.drew (below_setCell (below_setCell (below_setCell B1 ⟨w.heap.size, 0, none⟩ (Nat.le_refl _) _) ⟨w.heap.size, 1, none⟩ (Nat.le_refl _) _) ⟨w.heap.size, 2, none⟩ (Nat.le_refl _) _))).2 (by trivial))
      · have hcn : (code == 0) = false := by rw [beq_eq_false_iff_ne]; exact hc
        have FA := fault_any hBq code
        clear hBq j0 j1
        go_wp2_with (go_at_call 231; refine FA.mono ?_; rintro e w6 ⟨rfl, rfl⟩)
        exact bodyPost_ret (v := .tuple #[.agg #[.string ⟨#[]⟩, .string ⟨#[]⟩, .slice none 0 0], flt m code]) (by simp [results, Tryz.results175, go_sem, s0, s1, s2]) rfl ((HOH.out _ (below_setCell (below_setCell (below_setCell B1 ⟨w.heap.size, 0, none⟩ (Nat.le_refl _) _) ⟨w.heap.size, 1, none⟩ (Nat.le_refl _) _) ⟨w.heap.size, 2, none⟩ (Nat.le_refl _) _)).1 hc)
  · have hne : (((xs.length : Int) + 1) == 2) = false := by rw [beq_eq_false_iff_ne]; omega
    have FA := fault_any (h.below b0) 2
    have e0 := stepW_out (done := bs.map BAt.plain) (w := x) hx1
    have r0 := cell_of_block z0 0
    have r1 := cell_of_block z0 1
    have r2 := cell_of_block z0 2
    have q0 := frozen_of_block z0 0
    have q1 := frozen_of_block z0 1
    have q2 := frozen_of_block z0 2
    simp only [List.getElem?_toArray, List.getElem?_cons_zero, List.getElem?_cons_succ] at r0 r1 r2
    have HO := fun W (hB : Below w.heap.size w W) => (show BeginPost (bs.map BAt.plain) m x xs w (.returned (.tuple #[.agg #[.string ⟨#[]⟩, .string ⟨#[]⟩, .slice none 0 0], flt m 2])) W from ⟨hB, .inl (by rw [e0]; exact ⟨by simp, rfl⟩)⟩)
    have HOH := hid_in HO
    have B0 := hid_in b0
    clear HO h hb hw b0 z0 e0 h200
    generalize bs.length = nb at *
    generalize xs.length = nx at *
    go_enter Tryz.func175, Tryz.ntmps175
    go_wp2_with (go_at_call 231; refine FA.mono ?_; rintro e w6 ⟨rfl, rfl⟩)
    exact bodyPost_ret (v := .tuple #[.agg #[.string ⟨#[]⟩, .string ⟨#[]⟩, .slice none 0 0], flt m 2]) (by simp [results, Tryz.results175, go_sem]) rfl (HOH.out _ B0.out)
end Go.Proofs.YtpdahhnjhggocabGreatDoor
namespace Go.Proofs.YtpdahhnjhggocabGreatDoor
open Go.RowKit
def opa3_0 : Oper := { dst := some 17, op := Op.move (Operand.tmp 3), type := 61, pos := "l3_parse.go:179", after := #[], guard := none }
def opa3_1 : Oper := { dst := some 18, op := Op.indexAddr 61 (Operand.tmp 17) (Operand.const (Value.int IntKind.i64 0)), type := 0, pos := "l3_parse.go:179", after := #[{ on := 0, ground := Ground.data }], guard := none }
def opa3_2 : Oper := { dst := some 19, op := Op.load 9 (Operand.tmp 18), type := 9, pos := "l3_parse.go:179", after := #[{ on := 1, ground := Ground.data }], guard := none }
def opa3_3 : Oper := { dst := some 20, op := Op.move (Operand.tmp 3), type := 61, pos := "l3_parse.go:179", after := #[], guard := none }
def opa3_4 : Oper := { dst := some 21, op := Op.slice 61 (Operand.tmp 20) (some (Operand.const (Value.int IntKind.i64 1))) none none, type := 61, pos := "l3_parse.go:179", after := #[{ on := 3, ground := Ground.data }], guard := none }
def opa3_5 : Oper := { dst := some 22, op := Op.build 82 #[(0, Operand.tmp 19), (1, Operand.tmp 21)], type := 82, pos := "l3_parse.go:179", after := #[{ on := 2, ground := Ground.data }, { on := 4, ground := Ground.data }], guard := none }
def opa3_6 : Oper := { dst := some 10, op := Op.alloc 82, type := 0, pos := "l3_parse.go:179", after := #[], guard := none }
def opa3_7 : Oper := { dst := none, op := Op.store 82 (Operand.tmp 10) (Operand.tmp 22), type := 0, pos := "l3_parse.go:179", after := #[{ on := 6, ground := Ground.data }, { on := 5, ground := Ground.data }, { on := 0, ground := Ground.phase }, { on := 1, ground := Ground.phase }, { on := 2, ground := Ground.phase }, { on := 3, ground := Ground.phase }, { on := 4, ground := Ground.phase }, { on := 5, ground := Ground.phase }, { on := 6, ground := Ground.phase }], guard := none }
def opsa3 : List Oper := [opa3_0, opa3_1, opa3_2, opa3_3, opa3_4, opa3_5, opa3_6, opa3_7]
def A3F (W0 : World) (g n wc : Nat) (ta : Option Addr) (key : ByteArray) (i : Nat) (x : Value) (W : World) : Prop := match i with
  | 0 => x = (.slice (some ⟨g, 0, none⟩) (n + 1) wc)
  | 1 => x = (.pointer (some ⟨g, 0, none⟩))
  | 2 => x = .string key
  | 3 => x = (.slice (some ⟨g, 0, none⟩) (n + 1) wc)
  | 4 => x = (.slice ta n (wc - 1))
  | 5 => x = .agg #[.string key, (.slice ta n (wc - 1))]
  | 6 => ∃ R, x = .pointer (some ⟨R, 0, none⟩) ∧ W.heap[R]? = some (.cells #[.string ⟨#[]⟩, .slice none 0 0] 82 (0, 0)) ∧ W0.heap.size ≤ R
  | _ => True
set_option maxHeartbeats 2000000 in
set_option maxRecDepth 10000 in
theorem regionA3 {Q : Exit → Act → World → Prop} {a : Act} {W0 : World} {g n wc : Nat} {ta : Option Addr} {key : ByteArray} (hta : (if wc = 1 then some ⟨g, 0, none⟩ else some ⟨g, 1, none⟩ : Option Addr) = ta) (hk : W0.cell? ⟨g, 0, none⟩ = some (.string key)) (hwc : n + 1 ≤ wc) (hs : a.eval (.tmp 3) = (.slice (some ⟨g, 0, none⟩) (n + 1) wc)) (hsz : a.tmps.size = 36)
    (hQ : ∀ v a' R W', a' = putS a [17, 18, 19, 20, 21, 22, 10] v → v 6 = .pointer (some ⟨R, 0, none⟩) → W0.heap.size ≤ R → Below W0.heap.size W0 W' → W'.heap[R]? = some (.cells #[.string key, (.slice ta n (wc - 1))] 82 (0, 0)) → Q .normal a' W') : (Code.region 3 opsa3.toArray true).wp Tryz.prog Q a W0 := by
  have hnd : ([17, 18, 19, 20, 21, 22, 10] : List Nat).Nodup := by decide
  have i0 : (0 : Int) < (n : Int) + 1 := by omega
  have i1 : (1 : Int) ≤ (n : Int) + 1 := by omega
  have i2 : (n : Int) + 1 ≤ (wc : Int) := by omega
  refine wp_region_invS0 [17, 18, 19, 20, 21, 22, 10] (A3F W0 g n wc ta key) (fun _ W => Below W0.heap.size W0 W) 7 8 [0, 1, 2, 3, 4, 5, 6, 7] (by kernel_rfl) rfl (by decide) (by kernel_rfl) ?h1 (Below.refl _ _).drew ?hall
  case h1 =>
    intro i x W hi
    unfold A3F
    split <;> first | omega | trivial
  refine AllInv.consQ (o := opa3_0) [] (by kernel_rfl) (by decide) (by kernel_rfl) rfl ?o0 (AllInv.consQ (o := opa3_1) [0] (by kernel_rfl) (by decide) (by kernel_rfl) rfl ?o1 (AllInv.consQ (o := opa3_2) [1] (by kernel_rfl) (by decide) (by kernel_rfl) rfl ?o2 (AllInv.consQ (o := opa3_3) [] (by kernel_rfl) (by decide) (by kernel_rfl) rfl ?o3 (AllInv.consQ (o := opa3_4) [3] (by kernel_rfl) (by decide) (by kernel_rfl) rfl ?o4 (AllInv.consQ (o := opa3_5) [2, 4] (by kernel_rfl) (by decide) (by kernel_rfl) rfl ?o5 (AllInv.consQ (o := opa3_6) [] (by kernel_rfl) (by decide) (by kernel_rfl) rfl ?o6 (AllInv.lastQ (o := opa3_7) [6, 5, 0, 1, 2, 3, 4, 5, 6] (by kernel_rfl) (by kernel_rfl) rfl ?o7)))))))
  case o0 =>
    rintro Q' L _ W h0L hpre ⟨v, rfl, hv, hb⟩ K hK
    have r3 := (eval_out (v := v) (show 3 ∉ ([17, 18, 19, 20, 21, 22, 10] : List Nat) by decide)).trans hs
    have he : execOp (putS a [17, 18, 19, 20, 21, 22, 10] v).eval opa3_0 = execOp (Act.eval ⟨#[undef], []⟩) ⟨some 0, .move (.const (.slice (some ⟨g, 0, none⟩) (n + 1) wc)), 0, "", #[], none⟩ := by simp only [execOp, eval_const, opa3_0, r3]
    refine Lid.mk ?_
    unfold Oper.wp
    rw [he]
    clear he
    go_simp
    exact hK.out _ _ (InvG.nextL (W := W) hv 0 (.slice (some ⟨g, 0, none⟩) (n + 1) wc) (put_in 0 hnd rfl) (fun _ _ _ h => h) rfl hb)
  case o1 =>
    rintro Q' L _ W h0L hpre ⟨v, rfl, hv, hb⟩ K hK
    have r17 : (putS a [17, 18, 19, 20, 21, 22, 10] v).eval (.tmp 17) = _ := (eval_in 0 hnd rfl (by omega)).trans (hv 0 (hpre 0 (by simp)))
    have he : execOp (putS a [17, 18, 19, 20, 21, 22, 10] v).eval opa3_1 = execOp (Act.eval ⟨#[undef], []⟩) ⟨some 0, .indexAddr 61 (.const (.slice (some ⟨g, 0, none⟩) (n + 1) wc)) (.const (.int .i64 0)), 0, "", #[], none⟩ := by simp only [execOp, eval_const, opa3_1, r17]
    refine Lid.mk ?_
    unfold Oper.wp
    rw [he]
    clear he
    go_simp
    exact hK.out _ _ (InvG.nextL (W := W) hv 1 (.pointer (some ⟨g, 0, none⟩)) (put_in 1 hnd rfl) (fun _ _ _ h => h) rfl hb)
  case o2 =>
    rintro Q' L _ W h0L hpre ⟨v, rfl, hv, hb⟩ K hK
    have r18 : (putS a [17, 18, 19, 20, 21, 22, 10] v).eval (.tmp 18) = _ := (eval_in 1 hnd rfl (by omega)).trans (hv 1 (hpre 1 (by simp)))
    have k1 := (hb.cell (World.block_lt_of_cell? _ _ hk)).trans hk
    have he : execOp (putS a [17, 18, 19, 20, 21, 22, 10] v).eval opa3_2 = execOp (Act.eval ⟨#[undef], []⟩) ⟨some 0, .load 9 (.const (.pointer (some ⟨g, 0, none⟩))), 0, "", #[], none⟩ := by simp only [execOp, eval_const, opa3_2, r18]
    refine Lid.mk ?_
    unfold Oper.wp
    rw [he]
    clear he
    go_simp
    exact hK.out _ _ (InvG.nextL (W := W) hv 2 (.string key) (put_in 2 hnd rfl) (fun _ _ _ h => h) rfl hb)
  case o3 =>
    rintro Q' L _ W h0L hpre ⟨v, rfl, hv, hb⟩ K hK
    have r3 := (eval_out (v := v) (show 3 ∉ ([17, 18, 19, 20, 21, 22, 10] : List Nat) by decide)).trans hs
    have he : execOp (putS a [17, 18, 19, 20, 21, 22, 10] v).eval opa3_3 = execOp (Act.eval ⟨#[undef], []⟩) ⟨some 0, .move (.const (.slice (some ⟨g, 0, none⟩) (n + 1) wc)), 0, "", #[], none⟩ := by simp only [execOp, eval_const, opa3_3, r3]
    refine Lid.mk ?_
    unfold Oper.wp
    rw [he]
    clear he
    go_simp
    exact hK.out _ _ (InvG.nextL (W := W) hv 3 (.slice (some ⟨g, 0, none⟩) (n + 1) wc) (put_in 3 hnd rfl) (fun _ _ _ h => h) rfl hb)
  case o4 =>
    rintro Q' L _ W h0L hpre ⟨v, rfl, hv, hb⟩ K hK
    have r20 : (putS a [17, 18, 19, 20, 21, 22, 10] v).eval (.tmp 20) = _ := (eval_in 3 hnd rfl (by omega)).trans (hv 3 (hpre 3 (by simp)))
    have he : execOp (putS a [17, 18, 19, 20, 21, 22, 10] v).eval opa3_4 = execOp (Act.eval ⟨#[undef], []⟩) ⟨some 0, .slice 61 (.const (.slice (some ⟨g, 0, none⟩) (n + 1) wc)) (some (.const (.int .i64 1))) none none, 0, "", #[], none⟩ := by simp only [execOp, eval_const, opa3_4, r20, Option.map_some, Option.map_none]
    refine Lid.mk ?_
    unfold Oper.wp
    rw [he]
    clear he
    go_simp
    exact hK.out _ _ (InvG.nextL (W := W) hv 4 (.slice ta n (wc - 1)) (put_in 4 hnd rfl) (fun _ _ _ h => h) rfl hb)
  case o5 =>
    rintro Q' L _ W h0L hpre ⟨v, rfl, hv, hb⟩ K hK
    have r19 : (putS a [17, 18, 19, 20, 21, 22, 10] v).eval (.tmp 19) = _ := (eval_in 2 hnd rfl (by omega)).trans (hv 2 (hpre 2 (by simp)))
    have r21 : (putS a [17, 18, 19, 20, 21, 22, 10] v).eval (.tmp 21) = _ := (eval_in 4 hnd rfl (by omega)).trans (hv 4 (hpre 4 (by simp)))
    have he : execOp (putS a [17, 18, 19, 20, 21, 22, 10] v).eval opa3_5 = execOp (Act.eval ⟨#[undef], []⟩) ⟨some 0, .build 82 #[(0, .const (.string key)), (1, .const (.slice ta n (wc - 1)))], 0, "", #[], none⟩ := by simp only [execOp, eval_const, opa3_5, r19, r21, List.map_toArray, List.map_cons, List.map_nil]
    refine Lid.mk ?_
    unfold Oper.wp
    rw [he]
    clear he
    go_simp
    exact hK.out _ _ (InvG.nextL (W := W) hv 5 (.agg #[.string key, (.slice ta n (wc - 1))]) (put_in 5 hnd rfl) (fun _ _ _ h => h) rfl hb)
  case o6 =>
    rintro Q' L _ W h0L hpre ⟨v, rfl, hv, hb⟩ K hK
    have bx := (Below.refl W.heap.size W).alloc (Nat.le_refl _) (.cells #[.string ⟨#[]⟩, .slice none 0 0] 82)
    have he : execOp (putS a [17, 18, 19, 20, 21, 22, 10] v).eval opa3_6 = execOp (Act.eval ⟨#[undef], []⟩) ⟨some 0, .alloc 82, 0, "", #[], none⟩ := by kernel_rfl
    refine Lid.mk ?_
    unfold Oper.wp
    rw [he]
    clear he
    go_simp
    refine hK.out _ _ (InvG.nextL (W := W) hv 6 (.pointer (some ⟨W.heap.size, 0, none⟩)) (put_in 6 hnd rfl) (fun j y hj h => ?_) ⟨W.heap.size, rfl, alloc_here _ _, hb.size⟩ (hb.trans (bx.mono hb.size)))
    have h6 : j ≠ 6 := fun e => by rw [e, h0L] at hj; cases hj
    unfold A3F at *
    split <;> simp only at h
    all_goals first | exact h | exact absurd rfl h6 | trivial
  case o7 =>
    rintro Q' L _ W h0L hpre ⟨v, rfl, hv, hb⟩ K hK
    obtain ⟨R, e6, hz, hR⟩ := hv 6 (hpre 6 (by simp))
    have r10 : (putS a [17, 18, 19, 20, 21, 22, 10] v).eval (.tmp 10) = _ := (eval_in 6 hnd rfl (by omega)).trans e6
    have r22 : (putS a [17, 18, 19, 20, 21, 22, 10] v).eval (.tmp 22) = _ := (eval_in 5 hnd rfl (by omega)).trans (hv 5 (hpre 5 (by simp)))
    have g0 := cell_of_block hz 0
    have g1 := cell_of_block hz 1
    simp only [List.getElem?_toArray, List.getElem?_cons_zero, List.getElem?_cons_succ] at g0 g1
    have f0 := frozen_of_block hz 0
    have f1 := frozen_of_block hz 1
    have HZ := hid_in (show ((W.setCell ⟨R, 0, none⟩ (.string key)).setCell ⟨R, 1, none⟩ (.slice ta n (wc - 1))).heap[R]? = some (.cells #[.string key, (.slice ta n (wc - 1))] 82 (0, 0)) from by
      have z1 : (W.setCell ⟨R, 0, none⟩ (.string key)).heap[R]? = some (.cells #[.string key, .slice none 0 0] 82 (0, 0)) := by rw [heap_setCell_same W R 0 _ _ _ hz]; rfl
      rw [heap_setCell_same _ R 1 _ _ _ z1]; rfl)
    have HB := hid_in (below_setCell (below_setCell hb ⟨R, 0, none⟩ hR (.string key)) ⟨R, 1, none⟩ hR (.slice ta n (wc - 1)))
    have he : execOp (putS a [17, 18, 19, 20, 21, 22, 10] v).eval opa3_7 = execOp (Act.eval ⟨#[undef], []⟩) ⟨some 0, .store 82 (.const (.pointer (some ⟨R, 0, none⟩))) (.const (.agg #[.string key, (.slice ta n (wc - 1))])), 0, "", #[], none⟩ := by simp only [execOp, eval_const, opa3_7, r10, r22]
    refine Lid.mk ?_
    unfold Oper.wp
    rw [he]
    clear he
    go_simp
    exact hK.out _ _ (NoPanic.normal (hQ v _ R _ rfl e6 hR HB.out HZ.out))
end Go.Proofs.YtpdahhnjhggocabGreatDoor
namespace Go.Proofs.YtpdahhnjhggocabGreatDoor
open Go.RowKit
set_option maxHeartbeats 1000000 in
theorem add_open {R m : Nat} {rest : ByteArray} {vr ev : Value} {w : World} (h : RdBox R rest m w) : Calls Tryz.prog 176 #[.pointer (some ⟨R, 0, none⟩), vr, ev, .slice none 0 0] w fun e w' => e = .returned (.tuple #[.slice none 0 0, flt m 8]) ∧ w' = w := by
  have FA := fault_any h 8
  go_enter Tryz.func176, Tryz.ntmps176
  go_wp2_with (go_at_call 231; refine FA.mono ?_; rintro e w6 ⟨rfl, rfl⟩)
  go_ret2
  exact ⟨rfl, rfl⟩
def AddPost (R : List Plain) (B : Nat) (ev : Value) (es : List LAt) (m : Nat) (x : List UInt8) (xs : List (List UInt8)) (ta : Option Addr) (wc : Nat) (w : World) (e : Ending) (w' : World) : Prop :=
  (lineFault R (es.map LAt.plain) ⟨keyOf x, xs⟩ ≠ 0 ∧ e = .returned (.tuple #[.slice none 0 0, flt m (lineFault R (es.map LAt.plain) ⟨keyOf x, xs⟩)]) ∧ Below w.heap.size w w') ∨
  (lineFault R (es.map LAt.plain) ⟨keyOf x, xs⟩ = 0 ∧ ∃ a c, e = .returned (.tuple #[.slice a (es.length + 1) c, .nilIface]) ∧ w'.ownsRow B 82 2 (.slice a (es.length + 1) c) (es.length + 1) ((es ++ [(⟨keyOf x, .slice ta xs.length (wc - 1), xs⟩ : LAt)]).flatMap LAt.cells) ∧ ∃ W1, Below w.heap.size w W1 ∧ W1.grownBy w' ev.ownBlock ∧ ((Value.slice a (es.length + 1) c).ownBlock = ev.ownBlock ∨ (Value.slice a (es.length + 1) c).ownBlock = some W1.heap.size))
theorem tail_has {w : World} {g wc : Nat} {x : List UInt8} {xs : List (List UInt8)} {ta : Option Addr} (hta : (if wc = 1 then some ⟨g, 0, none⟩ else some ⟨g, 1, none⟩ : Option Addr) = ta) (hw : HasRow w (.slice (some ⟨g, 0, none⟩) (xs.length + 1) wc) (xs.length + 1) 1 (strs (x :: xs))) : HasRow w (.slice ta xs.length (wc - 1)) xs.length 1 (strs xs) := by
  have hcap := hw.cap
  obtain ⟨b, off, e, hc⟩ := hw.at (by omega)
  cases e
  refine ⟨by rw [strs_length]; omega, ta, wc - 1, rfl, ⟨by omega, by omega⟩, ?_⟩
  by_cases h0 : xs.length = 0
  · exact .inl h0
  · rw [if_neg (by omega)] at hta
    refine .inr ⟨g, 1, hta.symm, fun j u hj => ?_⟩
    have := hc (j + 1) u (by simpa [strs] using hj)
    rw [Nat.zero_add] at this
    rw [Nat.add_comm 1 j]; exact this
set_option maxHeartbeats 4000000 in
set_option maxRecDepth 100000 in
theorem add_any {R m B B2 g wc : Nat} {rest : ByteArray} {vr : Value} {L : List RAt} {ea : Option Addr} {ec : Nat} {es : List LAt} {x : List UInt8} {xs : List (List UInt8)} {ta : Option Addr} {w : World} (h : RdBox R rest m w) (hr : RulesAt B2 w vr L) (hsm : SmallR (L.map RAt.plain)) (hown : w.ownsRow B 82 2 (.slice ea es.length ec) es.length (es.flatMap LAt.cells)) (hB : B ≤ w.heap.size) (hin : ∀ y ∈ es, LineIn w y) (hel : es.length ≤ 1000000) (hew : ∀ y ∈ es, y.ws.length ≤ 1048576)
    (hw : HasRow w (.slice (some ⟨g, 0, none⟩) (xs.length + 1) wc) (xs.length + 1) 1 (strs (x :: xs))) (h200 : ∀ y ∈ x :: xs, y.length ≤ 200) (hx7 : xs.length ≤ 7) (hta : (if wc = 1 then some ⟨g, 0, none⟩ else some ⟨g, 1, none⟩ : Option Addr) = ta) (hst : StdAt w) :
    Calls Tryz.prog 176 #[.pointer (some ⟨R, 0, none⟩), vr, .slice ea es.length ec, .slice (some ⟨g, 0, none⟩) (xs.length + 1) wc] w fun e w' => AddPost (L.map RAt.plain) B (.slice ea es.length ec) es m x xs ta wc w e w' := by
  obtain ⟨b, off, e', k0⟩ := hw.word 0 (by simp)
  cases e'
  simp only [List.getElem_cons_zero, Nat.add_zero] at k0
  have hcap := hw.cap
  have htl := tail_has hta hw
  have hne : (((xs.length : Int) + 1) == 0) = false := by rw [beq_eq_false_iff_ne]; omega
  generalize hcode : lineFault (L.map RAt.plain) (es.map LAt.plain) ⟨keyOf x, xs⟩ = code
  obtain ⟨i0, hi, hz0, hz1, hz2⟩ := info_parts infoLine
  have HO1 := hid_in (show code ≠ 0 → ∀ W, Below w.heap.size w W → AddPost (L.map RAt.plain) B (.slice ea es.length ec) es m x xs ta wc w (.returned (.tuple #[.slice none 0 0, flt m code])) W from fun hc W hb => .inl ⟨by rw [hcode]; exact hc, by rw [hcode], hb⟩)
  have HO2 := hid_in (show code = 0 → ∀ a c W, W.ownsRow B 82 2 (.slice a (es.length + 1) c) (es.length + 1) ((es ++ [(⟨keyOf x, .slice ta xs.length (wc - 1), xs⟩ : LAt)]).flatMap LAt.cells) → (∃ W1, Below w.heap.size w W1 ∧ W1.grownBy W (Value.slice ea es.length ec).ownBlock ∧ ((Value.slice a (es.length + 1) c).ownBlock = (Value.slice ea es.length ec).ownBlock ∨ (Value.slice a (es.length + 1) c).ownBlock = some W1.heap.size)) → AddPost (L.map RAt.plain) B (.slice ea es.length ec) es m x xs ta wc w (.returned (.tuple #[.slice a (es.length + 1) c, .nilIface])) W from fun hc a c W ho hg => .inr ⟨by rw [hcode]; exact hc, a, c, rfl, ho, hg⟩)
  have HLF : ∀ W, Below w.heap.size w W → Calls Tryz.prog 204 #[vr, .slice ea es.length ec, .agg #[.string ⟨x.toArray⟩, .slice ta xs.length (wc - 1)]] W fun e w' => e = .returned (.int .i64 code) ∧ Below W.heap.size W w' := fun W hb => by
    have := lineFault_any (w := W) ⟨keyOf x, xs⟩ (hr.below hb) hsm ⟨(own_has hown).below hb, fun y hy => (hin y hy).below hb⟩ (by omega) hew (htl.below hb) (by simp only; omega) (fun y hy => Nat.le_trans (h200 y (List.mem_cons_of_mem _ hy)) (by decide)) (hst.below hb)
    rw [hcode] at this
    exact this
  have HOWN := hid_in hown
  have HBX := hid_in h
  obtain ⟨ra, rc, rfl⟩ : ∃ ra rc, vr = .slice ra L.length rc := by
    obtain ⟨ra, rc, e, _⟩ := own_form (Mem.head hr)
    exact ⟨ra, rc, e⟩
  clear h hr hown hin hew hw h200 hst htl hcode hsm
  generalize hne' : es.length = ne at *
  have ENE := hid_in hne'
  clear hne'
  generalize hnx : xs.length = nx at *
  clear hnx
  generalize L.length = nr at *
  go_enter Tryz.func176, Tryz.ntmps176
  go_upto_region 3 with fail
  refine regionA3 hta k0 hcap.1 (by kernel_rfl) (by kernel_rfl) ?_
  intro v a' Z W1 ha' hv6 hZ b1 hz
  simp only [putS, setS, List.setIfInBounds_toArray, List.set_cons_zero, List.set_cons_succ, hv6] at ha'
  subst ha'
  have HF := HLF W1 b1
  have c0 := cell_of_block hz 0
  have c1 := cell_of_block hz 1
  simp only [List.getElem?_toArray, List.getElem?_cons_zero, List.getElem?_cons_succ] at c0 c1
  go_wp2_with (go_at_call 204; refine HF.mono ?_)
  first | rintro e w2 rfl b2 | rintro e w2 ⟨rfl, b2⟩
  have B2' := b1.trans (b2.mono b1.size)
  have hBX := HBX.out.below B2'
  have d0 := (b2.cell (World.block_lt_of_cell? _ _ c0)).trans c0
  have d1 := (b2.cell (World.block_lt_of_cell? _ _ c1)).trans c1
  clear HF HLF c0 c1
  by_cases hc : code = 0
  · subst hc
    have hm3 := (own_below HOWN.out B2').alloc (.cells #[.string ⟨x.toArray⟩, .slice ta nx (wc - 1)] 82)
    have hrow := lit_has w2 #[.string ⟨x.toArray⟩, .slice ta nx (wc - 1)] 82 2 rfl
    have hone := lcells_one (ls := [⟨keyOf x, .slice ta nx (wc - 1), xs⟩]) (fun y hy => by rw [List.mem_singleton.1 hy]; exact ⟨_, _, _, rfl⟩)
    rw [List.flatMap_singleton] at hone
    have b3 := (Below.refl w2.heap.size w2).alloc (Nat.le_refl _) (.cells #[.string ⟨x.toArray⟩, .slice ta nx (wc - 1)] 82)
    have B3 := B2'.trans (b3.mono B2'.size)
    clear hBX
    go_wp2_with (at_builtin; refine wpList_append_has (by rfl) _ _ 41 (by rfl) B 82 i0 _ 2 40 Tryz.underlying41 hi hz0 hz1 hz2 rfl (by decide) _ ne _ (by rfl) hm3 _ 1 _ (by rfl) hrow hone ?c3 ?c4 (Nat.le_trans hB (Nat.le_trans B2'.size (by simp))) ?_)
    case c3 => unfold maxLen; omega
    case c4 => omega
    intro ao' cap' w5 hown5 hg5 hv5
    have HO := hid_in (HO2.out (by trivial) ao' cap' w5 (by rw [List.flatMap_append, List.flatMap_singleton]; exact hown5) ⟨_, B3, hg5, by rw [World.size_alloc]; exact hv5⟩)
    clear hm3 hrow hone hown5 hg5 d0 d1 HO1 HO2
    go_wp2
    go_ret2
    exact HO.out
  · have hcn : (code == 0) = false := by rw [beq_eq_false_iff_ne]; exact hc
    have FA := fault_any hBX code
    have HO := hid_in (HO1.out hc w2 B2')
    clear hBX d0 d1 HO1 HO2
    go_wp2_with (go_at_call 231; refine FA.mono ?_; rintro e w6 ⟨rfl, rfl⟩)
    go_ret2
    exact HO.out
end Go.Proofs.YtpdahhnjhggocabGreatDoor
namespace Go.Proofs.YtpdahhnjhggocabGreatDoor
open Go.RowKit
structure WAt where
  g : Nat
  wc : Nat
  x : List UInt8
  xs : List (List UInt8)
def WAt.ta (y : WAt) : Option Addr := if y.wc = 1 then some ⟨y.g, 0, none⟩ else some ⟨y.g, 1, none⟩
def WAt.l (y : WAt) : LAt := ⟨keyOf y.x, .slice y.ta y.xs.length (y.wc - 1), y.xs⟩
def WAt.r (y : WAt) : MRow := ⟨.slice (some ⟨y.g, 0, none⟩) (y.xs.length + 1) y.wc, 9, 1, y.xs.length + 1, strs (y.x :: y.xs)⟩
def WAt.sm (y : WAt) : Prop := y.xs.length ≤ 7 ∧ ∀ z ∈ y.x :: y.xs, z.length ≤ 200
structure GAt where
  kind : ByteArray
  name : ByteArray
  v : Value
  ys : List WAt
def GAt.b (b : GAt) : BAt := ⟨b.kind, b.name, b.v, b.ys.map WAt.l⟩
def plainL (ys : List WAt) : List PLine := (ys.map WAt.l).map LAt.plain
def plainG (gs : List GAt) : List PBlock := (gs.map GAt.b).map BAt.plain
def wrows (v : Value) (ys : List WAt) : List MRow := ⟨v, 82, 2, ys.length, (ys.map WAt.l).flatMap LAt.cells⟩ :: ys.map WAt.r
def grows (v : Value) (gs : List GAt) : List MRow := ⟨v, 64, 3, gs.length, (gs.map GAt.b).flatMap BAt.cells⟩ :: gs.flatMap (fun b => wrows b.v b.ys)
def boxR (Y : Nat) (k n : ByteArray) (v : Value) : MRow := ⟨.slice (some ⟨Y, 0, none⟩) 1 1, 64, 3, 1, [.string k, .string n, v]⟩
def rrows (v : Value) (L : List RAt) : List MRow := ⟨v, 105, 4, L.length, L.flatMap RAt.cells⟩ :: L.flatMap RAt.rows
theorem wat_in {B : Nat} {W : World} {y : WAt} (h : y.r.isAt B W) : LineIn W y.l := tail_has (x := y.x) (g := y.g) rfl (own_has h)
theorem wrows_in {B : Nat} {W : World} {v : Value} {ys : List WAt} (h : Mem B W (wrows v ys)) : LinesIn W v (ys.map WAt.l) := by
  refine ⟨?_, fun x hx => ?_⟩
  · have := own_has (Mem.head h)
    rw [List.length_map]; exact this
  · obtain ⟨y, hy, rfl⟩ := List.mem_map.1 hx
    exact wat_in (h.1 y.r (List.mem_cons_of_mem _ (List.mem_map_of_mem hy)))
theorem grows_lines {B : Nat} {W : World} {v : Value} {gs : List GAt} (h : Mem B W (grows v gs)) {b : GAt} (hb : b ∈ gs) : Mem B W (wrows b.v b.ys) := by
  obtain ⟨A, C, e⟩ := flat_split (fun b : GAt => wrows b.v b.ys) hb
  have h2 := Mem.tail h
  rw [e] at h2
  exact Mem.left (Mem.right h2)
theorem grows_in {B : Nat} {W : World} {v : Value} {gs : List GAt} (h : Mem B W (grows v gs)) : BlocksIn W v (gs.map GAt.b) := by
  refine ⟨?_, fun x hx => ?_⟩
  · have := own_has (Mem.head h)
    rw [List.length_map]; exact this
  · obtain ⟨b, hb, rfl⟩ := List.mem_map.1 hx
    exact wrows_in (grows_lines h hb)
theorem wat_small {ys : List WAt} (hl : ys.length ≤ 1048576) (h : ∀ y ∈ ys, y.sm) : LinesSmall (ys.map WAt.l) := by
  refine ⟨by rw [List.length_map]; exact hl, fun x hx => ?_⟩
  obtain ⟨y, hy, rfl⟩ := List.mem_map.1 hx
  exact ⟨Nat.le_trans (h y hy).1 (by decide), fun z hz => Nat.le_trans ((h y hy).2 z (List.mem_cons_of_mem _ hz)) (by decide)⟩
def GAt.sm (b : GAt) : Prop := b.name.size ≤ 200 ∧ b.ys.length ≤ 1000000 ∧ ∀ y ∈ b.ys, y.sm
theorem gat_small {gs : List GAt} (hl : gs.length ≤ 1048576) (h : ∀ b ∈ gs, b.sm) : BlocksSmall (gs.map GAt.b) := by
  refine ⟨by rw [List.length_map]; exact hl, fun x hx => ?_⟩
  obtain ⟨b, hb, rfl⟩ := List.mem_map.1 hx
  exact ⟨Nat.le_trans (h b hb).1 (by decide), wat_small (Nat.le_trans (h b hb).2.1 (by decide)) (h b hb).2.2⟩
def rdLines (R : Nat) (W : World) : Nat := match W.cell? ⟨R, 0, none⟩ with
  | some (.string s) => (textLines s.data.toList).length
  | _ => 0
theorem RdBox.lines {R m : Nat} {rest : ByteArray} {W : World} (h : RdBox R rest m W) : rdLines R W = (textLines rest.data.toList).length := by
  have c0 := cell_of_block h 0
  simp only [List.getElem?_toArray, List.getElem?_cons_zero] at c0
  unfold rdLines; rw [c0]
structure RdS (R : Nat) (w : World) (N : Nat) (L : List MRow) (rest : ByteArray) (m : Nat) (W : World) : Prop where
  mem : Mem w.heap.size W L
  box : RdBox R rest m W
  gr : w.grownBy W (some R)
  lt : R < w.heap.size
  sz : rest.size ≤ 1048576
  n : m + (textLines rest.data.toList).length = N
  big : N ≤ 1000000
theorem RdS.below {R : Nat} {w : World} {N : Nat} {L : List MRow} {rest : ByteArray} {m : Nat} {W W' : World} (h : RdS R w N L rest m W) (hb : Below W.heap.size W W') : RdS R w N L rest m W' :=
  ⟨h.mem.below hb, h.box.below hb, grown_trans h.gr (grown_of_below hb _), h.lt, h.sz, h.n, h.big⟩
theorem RdS.read {R : Nat} {w : World} {N : Nat} {L : List MRow} {rest r : ByteArray} {m m' wc g : Nat} {x : List UInt8} {xs rs : List (List UInt8)} {W W' : World} (h : RdS R w N L rest m W) (hn : nextW m (textLines rest.data.toList) = .words m' x xs rs) (hg : W.grownBy W' (some R)) (hr : textLines r.data.toList = rs) (hz : r.size ≤ 1048576) (hb : RdBox R r m' W') (ho : W'.ownsRow W.heap.size 9 1 (.slice (some ⟨g, 0, none⟩) (xs.length + 1) wc) (xs.length + 1) (strs (x :: xs))) : RdS R w N ((⟨g, wc, x, xs⟩ : WAt).r :: L) r m' W' := by
  have hl := nextW_len _ _ _ _ _ _ hn
  have h0 := h.gr.size
  refine ⟨?_, hb, grown_trans h.gr hg, h.lt, hz, by rw [hr, hl.2]; exact h.n, h.big⟩
  have h1 := Mem.other h.mem hg h.lt
  refine ⟨fun r' hr' => ?_, List.pairwise_cons.2 ⟨fun s hs => ?_, h1.2⟩⟩
  · rcases List.mem_cons.1 hr' with rfl | hr'
    · exact own_mono ho h0
    · exact h1.1 r' hr'
  · right
    intro e
    have h2 := (World.ownsRow.lt ho g rfl).1
    have h3 := (Mem.lt h.mem hs (g := g) (by rw [← e]; rfl)).2
    omega
end Go.Proofs.YtpdahhnjhggocabGreatDoor
namespace Go.Proofs.YtpdahhnjhggocabGreatDoor
open Go.RowKit
structure VAt where
  key : ByteArray
  g : Nat
  wc : Nat
  x : List UInt8
  xs : List (List UInt8)
def VAt.v (y : VAt) : Value := .slice (if y.wc = 1 then some ⟨y.g, 0, none⟩ else some ⟨y.g, 1, none⟩) y.xs.length (y.wc - 1)
def VAt.l (y : VAt) : LAt := ⟨y.key, y.v, y.xs⟩
def VAt.cells (y : VAt) : List Value := [.string y.key, y.v]
def VAt.row (y : VAt) : MRow := ⟨.slice (some ⟨y.g, 0, none⟩) (y.xs.length + 1) y.wc, 9, 1, y.xs.length + 1, strs (y.x :: y.xs)⟩
theorem VAt.len (x : VAt) : x.cells.length = 2 := rfl
def vrows (v : Value) (ys : List VAt) : List MRow := ⟨v, 82, 2, ys.length, ys.flatMap VAt.cells⟩ :: ys.map VAt.row
def VOwn (B : Nat) (w : World) (v : Value) (ys : List VAt) : Prop := Mem B w (vrows v ys)
theorem VOwn.row {B : Nat} {w : World} {v : Value} {ys : List VAt} (h : VOwn B w v ys) : w.ownsRow B 82 2 v ys.length (ys.flatMap VAt.cells) := Mem.head h
structure VB where
  kind : ByteArray
  name : ByteArray
  v : Value
  ys : List VAt
def VB.b (b : VB) : BAt := ⟨b.kind, b.name, b.v, b.ys.map VAt.l⟩
def VB.cells (b : VB) : List Value := [.string b.kind, .string b.name, b.v]
theorem VB.len (x : VB) : x.cells.length = 3 := rfl
def VB.rows (b : VB) : List MRow := vrows b.v b.ys
def gvrows (v : Value) (bs : List VB) : List MRow := ⟨v, 64, 3, bs.length, bs.flatMap VB.cells⟩ :: bs.flatMap VB.rows
def GOwn (B : Nat) (w : World) (v : Value) (bs : List VB) : Prop := Mem B w (gvrows v bs)
theorem GOwn.row {B : Nat} {w : World} {v : Value} {bs : List VB} (h : GOwn B w v bs) : w.ownsRow B 64 3 v bs.length (bs.flatMap VB.cells) := Mem.head h
theorem GOwn.below {B : Nat} {w w' : World} {v : Value} {bs : List VB} (h : GOwn B w v bs) (hb : Below w.heap.size w w') : GOwn B w' v bs := Mem.below h hb
def VSm (ys : List VAt) : Prop := ys.length ≤ 1048576 ∧ ∀ x ∈ ys, x.xs.length ≤ 1048576 ∧ ∀ y ∈ x.xs, y.length ≤ 1048576
def GSm (bs : List VB) : Prop := bs.length ≤ 1048576 ∧ ∀ b ∈ bs, b.name.size ≤ 1048576 ∧ VSm b.ys
def WAt.va (y : WAt) : VAt := ⟨keyOf y.x, y.g, y.wc, y.x, y.xs⟩
def GAt.vb (b : GAt) : VB := ⟨b.kind, b.name, b.v, b.ys.map WAt.va⟩
theorem wrows_v (v : Value) (ys : List WAt) : wrows v ys = vrows v (ys.map WAt.va) := by
  unfold wrows vrows
  rw [List.length_map, List.map_map, List.flatMap_map, List.flatMap_map]
  rfl
theorem grows_v (v : Value) (gs : List GAt) : grows v gs = gvrows v (gs.map GAt.vb) := by
  unfold grows gvrows
  rw [List.length_map, List.flatMap_map, List.flatMap_map, List.flatMap_map]
  congr 1
  exact congrArg (fun f => gs.flatMap f) (funext fun b => wrows_v b.v b.ys)
theorem gat_vsm {gs : List GAt} (hl : gs.length ≤ 1048576) (h : ∀ b ∈ gs, b.sm) : GSm (gs.map GAt.vb) := by
  refine ⟨by rw [List.length_map]; exact hl, fun b hb => ?_⟩
  obtain ⟨a, ha, rfl⟩ := List.mem_map.1 hb
  have hs := h a ha
  refine ⟨Nat.le_trans hs.1 (by decide), by show (a.ys.map WAt.va).length ≤ 1048576; rw [List.length_map]; exact Nat.le_trans hs.2.1 (by decide), fun x hx => ?_⟩
  obtain ⟨y, hy, rfl⟩ := List.mem_map.1 hx
  have h7 := hs.2.2 y hy
  exact ⟨Nat.le_trans h7.1 (by decide), fun z hz => Nat.le_trans (h7.2 z (List.mem_cons_of_mem _ hz)) (by decide)⟩
def VM (B : Nat) (w : World) (v : Value) (C : List VAt) (rest : List MRow) : Prop := Mem B w (vrows v C ++ rest)
theorem VM.below {B : Nat} {w w' : World} {v : Value} {C : List VAt} {rest : List MRow} (h : VM B w v C rest) (hb : Below w.heap.size w w') : VM B w' v C rest := Mem.below h hb
theorem VM.own {B : Nat} {w : World} {v : Value} {C : List VAt} {rest : List MRow} (h : VM B w v C rest) : VOwn B w v C := Mem.left h
theorem VOwn.vm {B : Nat} {w : World} {v : Value} {C : List VAt} (h : VOwn B w v C) : VM B w v C [] := by unfold VM; rw [List.append_nil]; exact h
theorem VM.size {B g n cap : Nat} {w : World} {C : List VAt} {rest : List MRow} (h : VM B w (.slice (some ⟨g, 0, none⟩) n cap) C rest) (hn : C.length = n) : w.ownsRow B 82 2 (.slice (some ⟨g, 0, none⟩) n cap) n (C.flatMap VAt.cells) := by
  subst hn; exact Mem.head h
theorem VM.cell {B g n cap : Nat} {w : World} {D T : List VAt} {r : VAt} {rest : List MRow} (h : VM B w (.slice (some ⟨g, 0, none⟩) n cap) (D ++ r :: T) rest) (c : Nat) (hc : c < 2) : w.cell? ⟨g, D.length * 2 + c, none⟩ = r.cells[c]? := by
  have h1 := (Mem.head h).cells rfl (D.length * 2 + c)
  obtain ⟨u, hu⟩ : ∃ u, r.cells[c]? = some u := ⟨_, List.getElem?_eq_getElem (by simp [VAt.cells]; omega)⟩
  rw [hu]
  rw [← add_off]; exact h1 u (by rw [rowF_at _ 2 VAt.len D T r c hc, hu])
theorem VM.words {B : Nat} {w : World} {v : Value} {D T : List VAt} {r : VAt} {rest : List MRow} (h : VM B w v (D ++ r :: T) rest) : w.ownsRow B 9 1 (.slice (some ⟨r.g, 0, none⟩) (r.xs.length + 1) r.wc) (r.xs.length + 1) (strs (r.x :: r.xs)) := h.1 r.row (List.mem_append_left _ (List.mem_cons_of_mem _ (List.mem_map_of_mem (by simp))))
theorem VM.own_lt {B g n cap : Nat} {w : World} {C : List VAt} {rest : List MRow} (h : VM B w (.slice (some ⟨g, 0, none⟩) n cap) C rest) : B ≤ g := (Mem.lt h (List.mem_cons_self ..) (show (Value.slice (some ⟨g, 0, none⟩) n cap).ownBlock = some g from rfl)).1
theorem VM.set {B g n cap : Nat} {w : World} {D T : List VAt} {r : VAt} {rest : List MRow} (h : VM B w (.slice (some ⟨g, 0, none⟩) n cap) (D ++ r :: T) rest) (hn : (D ++ r :: T).length = n) (c : Nat) (u : Value) (r' : VAt) (hc : c < 2) (hr : r'.cells = r.cells.set c u) (hrr : r'.row = r.row) :
    VM B (w.setCell ⟨g, D.length * 2 + c, none⟩ u) (.slice (some ⟨g, 0, none⟩) n cap) (D ++ r' :: T) rest := by
  have hst := (h.size hn).stored (D.length * 2 + c) u
  rw [rowF_set _ 2 VAt.len D T r r' c u hc hr] at hst
  unfold VM vrows at h ⊢
  have e : (D ++ r' :: T).map VAt.row = (D ++ r :: T).map VAt.row := by rw [List.map_append, List.map_append, List.map_cons, List.map_cons, hrr]
  have e2 : (D ++ r' :: T).length = (D ++ r :: T).length := by simp
  rw [e, e2]
  subst hn
  exact Mem.turn h rfl hst.1 hst.2
theorem VM.turn {B : Nat} {w w' : World} {v : Value} {D T : List VAt} {r : VAt} {rest : List MRow} (h : VM B w v (D ++ r :: T) rest) (ws' : List (List UInt8)) (hl : ws'.length = r.xs.length) (ho : w'.ownsRow B 9 1 (.slice (some ⟨r.g, 0, none⟩) (r.xs.length + 1) r.wc) (r.xs.length + 1) (strs (r.x :: ws'))) (hg : w.grownBy w' (some r.g)) : VM B w' v (D ++ { r with xs := ws' } :: T) rest := by
  have e : ∀ x : VAt, ((D ++ x :: T).map VAt.row ++ rest) = D.map VAt.row ++ (x.row :: (T.map VAt.row ++ rest)) := fun x => by simp
  unfold VM vrows at h ⊢
  have ev : VAt.cells { r with xs := ws' } = VAt.cells r := by unfold VAt.cells VAt.v; simp only [hl]
  have ec : (D ++ { r with xs := ws' } :: T).flatMap VAt.cells = (D ++ r :: T).flatMap VAt.cells := by rw [List.flatMap_append, List.flatMap_append, List.flatMap_cons, List.flatMap_cons, ev]
  have e2 : (D ++ { r with xs := ws' } :: T).length = (D ++ r :: T).length := by simp
  rw [List.cons_append, e] at h
  rw [List.cons_append, e, ec, e2]
  exact Mem.midTurn (A := _ :: D.map VAt.row) (r := r.row) (r' := VAt.row { r with xs := ws' }) h (by show Value.slice _ (ws'.length + 1) _ = Value.slice _ (r.xs.length + 1) _; rw [hl]) (by show w'.ownsRow B 9 1 (.slice _ (ws'.length + 1) _) (ws'.length + 1) (strs (r.x :: ws')); rw [hl]; exact ho) hg
def GM (B : Nat) (w : World) (v : Value) (C : List VB) (rest : List MRow) : Prop := Mem B w (gvrows v C ++ rest)
theorem GM.below {B : Nat} {w w' : World} {v : Value} {C : List VB} {rest : List MRow} (h : GM B w v C rest) (hb : Below w.heap.size w w') : GM B w' v C rest := Mem.below h hb
theorem GM.own {B : Nat} {w : World} {v : Value} {C : List VB} {rest : List MRow} (h : GM B w v C rest) : GOwn B w v C := Mem.left h
theorem GOwn.gm {B : Nat} {w : World} {v : Value} {C : List VB} (h : GOwn B w v C) : GM B w v C [] := by unfold GM; rw [List.append_nil]; exact h
theorem GM.size {B g n cap : Nat} {w : World} {C : List VB} {rest : List MRow} (h : GM B w (.slice (some ⟨g, 0, none⟩) n cap) C rest) (hn : C.length = n) : w.ownsRow B 64 3 (.slice (some ⟨g, 0, none⟩) n cap) n (C.flatMap VB.cells) := by
  subst hn; exact Mem.head h
theorem GM.cell {B g n cap : Nat} {w : World} {D T : List VB} {r : VB} {rest : List MRow} (h : GM B w (.slice (some ⟨g, 0, none⟩) n cap) (D ++ r :: T) rest) (c : Nat) (hc : c < 3) : w.cell? ⟨g, D.length * 3 + c, none⟩ = r.cells[c]? := by
  have h1 := (Mem.head h).cells rfl (D.length * 3 + c)
  obtain ⟨u, hu⟩ : ∃ u, r.cells[c]? = some u := ⟨_, List.getElem?_eq_getElem (by simp [VB.cells]; omega)⟩
  rw [hu]
  rw [← add_off]; exact h1 u (by rw [rowF_at _ 3 VB.len D T r c hc, hu])
theorem GM.own_lt {B g n cap : Nat} {w : World} {C : List VB} {rest : List MRow} (h : GM B w (.slice (some ⟨g, 0, none⟩) n cap) C rest) : B ≤ g := (Mem.lt h (List.mem_cons_self ..) (show (Value.slice (some ⟨g, 0, none⟩) n cap).ownBlock = some g from rfl)).1
theorem GM.set {B g n cap : Nat} {w : World} {D T : List VB} {r : VB} {rest : List MRow} (h : GM B w (.slice (some ⟨g, 0, none⟩) n cap) (D ++ r :: T) rest) (hn : (D ++ r :: T).length = n) (c : Nat) (u : Value) (r' : VB) (hc : c < 3) (hr : r'.cells = r.cells.set c u) (hrr : r'.rows = r.rows) :
    GM B (w.setCell ⟨g, D.length * 3 + c, none⟩ u) (.slice (some ⟨g, 0, none⟩) n cap) (D ++ r' :: T) rest := by
  have hst := (h.size hn).stored (D.length * 3 + c) u
  rw [rowF_set _ 3 VB.len D T r r' c u hc hr] at hst
  unfold GM gvrows at h ⊢
  have e : (D ++ r' :: T).flatMap VB.rows = (D ++ r :: T).flatMap VB.rows := by rw [List.flatMap_append, List.flatMap_append, List.flatMap_cons, List.flatMap_cons, hrr]
  have e2 : (D ++ r' :: T).length = (D ++ r :: T).length := by simp
  rw [e, e2]
  subst hn
  exact Mem.turn h rfl hst.1 hst.2
def besideV (v : Value) (D : List VB) (r : VB) (T : List VB) (rest : List MRow) : List MRow := (⟨v, 64, 3, (D ++ r :: T).length, (D ++ r :: T).flatMap VB.cells⟩ :: D.flatMap VB.rows) ++ (T.flatMap VB.rows ++ rest)
theorem besideV_perm (v : Value) (D : List VB) (r : VB) (T : List VB) (rest : List MRow) : (gvrows v (D ++ r :: T) ++ rest).Perm (vrows r.v r.ys ++ besideV v D r T rest) := by
  have e : gvrows v (D ++ r :: T) ++ rest = (⟨v, 64, 3, (D ++ r :: T).length, (D ++ r :: T).flatMap VB.cells⟩ :: D.flatMap VB.rows) ++ (vrows r.v r.ys ++ (T.flatMap VB.rows ++ rest)) := by
    unfold gvrows; rw [List.flatMap_append, List.flatMap_cons]; simp [VB.rows]
  rw [e]
  exact List.perm_append_comm_assoc _ _ _
theorem GM.lines {B : Nat} {w : World} {v : Value} {D T : List VB} {r : VB} {rest : List MRow} (h : GM B w v (D ++ r :: T) rest) : VM B w r.v r.ys (besideV v D r T rest) := Mem.perm h (besideV_perm v D r T rest)
theorem GM.back {B : Nat} {w : World} {v : Value} {D T : List VB} {r : VB} {rest : List MRow} {ls' : List VAt} (h : VM B w r.v ls' (besideV v D r T rest)) : GM B w v (D ++ { r with ys := ls' } :: T) rest := by
  refine Mem.perm h (List.Perm.symm ?_)
  have e : besideV v D r T rest = besideV v D { r with ys := ls' } T rest := by
    unfold besideV
    rw [show (D ++ { r with ys := ls' } :: T).flatMap VB.cells = (D ++ r :: T).flatMap VB.cells by rw [List.flatMap_append, List.flatMap_append, List.flatMap_cons, List.flatMap_cons]; rfl, show (D ++ { r with ys := ls' } :: T).length = (D ++ r :: T).length by simp]
  rw [e]
  exact besideV_perm v D { r with ys := ls' } T rest
set_option maxHeartbeats 1000000 in
set_option maxRecDepth 100000 in
theorem markStrings_v1 (B g cap cap2 n k : Nat) (x : Value) (xs : List Value) (w : World) (hown : w.ownsRow B 9 1 (.slice (some ⟨g, 0, none⟩) (n + 1) cap) (n + 1) (x :: xs)) (h1 : 1 ≤ k) (h2 : k + n ≤ 4611686018427387904) :
    Calls Tryz.prog 82 #[.slice (some ⟨g, 1, none⟩) n cap2, .int .i64 (k : Int)] w fun e w' => e = .returned (.int .i64 ((k : Int) + (n : Int))) ∧ w'.ownsRow B 9 1 (.slice (some ⟨g, 0, none⟩) (n + 1) cap) (n + 1) (x :: strs (marks k n)) ∧ w.grownBy w' (some g) := by
  have hxl : xs.length = n := by have := hown.1; simp only [List.length_cons] at this; omega
  go_enter Tryz.func82, Tryz.ntmps82
  go_wp2
  go_loopw [1, 5] (fun q i wr => ∃ j : Nat, j ≤ n ∧ i = .int .i64 (j : Int) ∧ q = .int .i64 ((k : Int) + (j : Int)) ∧ wr.ownsRow B 9 1 (.slice (some ⟨g, 0, none⟩) (n + 1) cap) (n + 1) (x :: part k j xs) ∧ w.grownBy wr (some g)) (fun _ i _ => n - (intOf i).toNat)
  case atStart => exact ⟨0, by omega, rfl, by simp, by rw [part_zero]; exact hown, World.grownBy.refl _ _⟩
  case round =>
    obtain ⟨j, hj, rfl, rfl, hown1, hgr⟩ := hrel
    by_cases hlt : j < n
    · have HM := fun W => markText_any (k + j) W (by omega) (by omega)
      have ek : ((k + j : Nat) : Int) = (k : Int) + (j : Int) := by omega
      rw [ek] at HM
      have HP : Hid _ := part_set k j xs (by omega)
      clear ek
      go_wp2_with (go_at_call 81; refine (HM _).mono ?_)
      rintro e w1 ⟨rfl, b1⟩
      have hown2 := own_below hown1 b1
      have hc := hown2.cellAt (1 + j) (by omega)
      have hcs : ∃ u, (x :: part k j xs)[1 + j]? = some u := ⟨_, List.getElem?_eq_getElem (by have := hown1.1; omega)⟩
      obtain ⟨u, hu⟩ := hcs
      rw [hu] at hc
      have hf := hown2.frozenAt (1 + j)
      have hst := hown2.stored (1 + j) (.string ⟨(markL (k + j)).toArray⟩)
      clear HM hu
      go_wp2
      go_roundw
      case rel =>
        refine ⟨j + 1, by omega, by go_num, by go_num, ?_, grown_trans (grown_trans hgr (grown_of_below b1 _)) hst.2⟩
        rw [← HP.out, ← List.set_cons_succ, Nat.add_comm j 1]; exact hst.1
      case measure => simp [intOf]; omega
    · obtain rfl : j = n := by omega
      rw [part_all k j xs hxl] at hown1
      go_wp2
      go_ret
      exact ⟨rfl, hown1, hgr⟩
set_option maxHeartbeats 1000000 in
set_option maxRecDepth 100000 in
theorem heldStrings_v1 (B g cap cap2 n k : Nat) (x : Value) (w : World) (hown : w.ownsRow B 9 1 (.slice (some ⟨g, 0, none⟩) (n + 1) cap) (n + 1) (x :: strs (marks k n))) (h1 : 1 ≤ k) (h2 : k + n ≤ 4611686018427387904) :
    Calls Tryz.prog 83 #[.slice (some ⟨g, 1, none⟩) n cap2, .int .i64 (k : Int)] w fun e w' => e = .returned (.int .i64 ((k : Int) + (n : Int))) ∧ Below w.heap.size w w' := by
  go_enter Tryz.func83, Tryz.ntmps83
  go_wp2
  go_loopw [1, 5] (fun q i wr => ∃ j : Nat, j ≤ n ∧ i = .int .i64 (j : Int) ∧ q = .int .i64 ((k : Int) + (j : Int)) ∧ Below w.heap.size w wr) (fun _ i _ => n - (intOf i).toNat)
  case atStart => exact ⟨0, by omega, rfl, by simp, Below.refl _ _⟩
  case round =>
    obtain ⟨j, hj, rfl, rfl, hbw⟩ := hrel
    by_cases hlt : j < n
    · have HM := fun W => markText_any (k + j) W (by omega) (by omega)
      have ek : ((k + j : Nat) : Int) = (k : Int) + (j : Int) := by omega
      rw [ek] at HM
      clear ek
      have hc : wr.cell? ⟨g, 1 + j, none⟩ = some (.string ⟨(markL (k + j)).toArray⟩) := by
        have := (own_below hown hbw).cellAt (1 + j) (by omega)
        rw [this, Nat.add_comm 1 j, List.getElem?_cons_succ, marks_at k n j hlt]
      have hlg := World.block_lt_of_cell? wr _ hc
      generalize (⟨(markL (k + j)).toArray⟩ : ByteArray) = M at *
      go_wp2
      go_region_held3 (fun w' => w'.cell? ⟨g, 1 + j, none⟩ = some (.string M)) (first | go_keep | (rw [b1.cell (by simp; omega)]; go_keep))
        (first | (go_at_call 81; refine (HM _).mono ?_; rintro e w1 ⟨rfl, b1⟩))
      all_goals
        go_wp2
        go_roundw
        case rel => exact ⟨j + 1, by omega, by go_num, by go_num, hbw.trans (((Below.refl wr.heap.size wr).drew.trans b1).mono hbw.size)⟩
        case measure => simp [intOf]; omega
    · obtain rfl : j = n := by omega
      go_wp2
      go_ret
      exact ⟨rfl, hbw⟩
theorem markStrings_v {B k : Nat} {r : VAt} {w : World} (hown : w.ownsRow B 9 1 (.slice (some ⟨r.g, 0, none⟩) (r.xs.length + 1) r.wc) (r.xs.length + 1) (strs (r.x :: r.xs))) (h1 : 1 ≤ k) (h2 : k + r.xs.length ≤ 4611686018427387904) :
    Calls Tryz.prog 82 #[r.v, .int .i64 (k : Int)] w fun e w' => e = .returned (.int .i64 ((k : Int) + (r.xs.length : Int))) ∧ w'.ownsRow B 9 1 (.slice (some ⟨r.g, 0, none⟩) (r.xs.length + 1) r.wc) (r.xs.length + 1) (strs (r.x :: marks k r.xs.length)) ∧ w.grownBy w' (some r.g) := by
  have hcap := (own_has hown).cap
  by_cases hw : r.wc = 1
  · have h0 : r.xs.length = 0 := by omega
    have e0 : r.xs = [] := List.length_eq_zero_iff.1 h0
    unfold VAt.v
    rw [if_pos hw, h0]
    refine (markStrings_zero _ _ k w).mono ?_
    rintro e w' ⟨rfl, rfl⟩
    refine ⟨by simp, ?_, World.grownBy.refl _ _⟩
    rw [h0, e0] at hown
    exact hown
  · unfold VAt.v
    rw [if_neg hw]
    exact markStrings_v1 B r.g r.wc (r.wc - 1) r.xs.length k (.string ⟨r.x.toArray⟩) (strs r.xs) w hown h1 h2
theorem heldStrings_v {B k : Nat} {r : VAt} {w : World} (hown : w.ownsRow B 9 1 (.slice (some ⟨r.g, 0, none⟩) (r.xs.length + 1) r.wc) (r.xs.length + 1) (strs (r.x :: marks k r.xs.length))) (h1 : 1 ≤ k) (h2 : k + r.xs.length ≤ 4611686018427387904) :
    Calls Tryz.prog 83 #[r.v, .int .i64 (k : Int)] w fun e w' => e = .returned (.int .i64 ((k : Int) + (r.xs.length : Int))) ∧ Below w.heap.size w w' := by
  have hcap := (own_has hown).cap
  by_cases hw : r.wc = 1
  · have h0 : r.xs.length = 0 := by omega
    unfold VAt.v
    rw [if_pos hw, h0]
    refine (heldStrings_zero _ _ k w).mono ?_
    rintro e w' ⟨rfl, rfl⟩
    exact ⟨by simp, Below.refl _ _⟩
  · unfold VAt.v
    rw [if_neg hw]
    exact heldStrings_v1 B r.g r.wc (r.wc - 1) r.xs.length k (.string ⟨r.x.toArray⟩) w hown h1 h2
end Go.Proofs.YtpdahhnjhggocabGreatDoor
namespace Go.Proofs.YtpdahhnjhggocabGreatDoor
open Go.RowKit
def markVn (k : Nat) (r : VAt) : VAt := { r with key := ⟨(markL k).toArray⟩, xs := marks (k + 1) r.xs.length }
theorem markVn_v (k : Nat) (r : VAt) : VAt.v (markVn k r) = r.v := by unfold VAt.v markVn; simp only [marks_length]
def nextV (k : Nat) (r : VAt) : Nat := k + 1 + r.xs.length
def markVs : Nat → List VAt → List VAt
  | _, [] => []
  | k, r :: L => markVn k r :: markVs (nextV k r) L
def endV : Nat → List VAt → Nat
  | k, [] => k
  | k, r :: L => endV (nextV k r) L
theorem endV_le : ∀ (L : List VAt) (k : Nat), k ≤ endV k L
  | [], k => Nat.le_refl _
  | r :: L, k => Nat.le_trans (by unfold nextV; omega) (endV_le L (nextV k r))
theorem markVs_length : ∀ (L : List VAt) (k : Nat), (markVs k L).length = L.length
  | [], k => rfl
  | r :: L, k => by simp [markVs, markVs_length L]
theorem endV_small : ∀ (L : List VAt) (k : Nat), (∀ r ∈ L, r.xs.length ≤ 1048576) → endV k L ≤ k + 1048577 * L.length
  | [], k, _ => by simp [endV]
  | r :: L, k, h => by
    have h1 := h r (by simp)
    have h2 := endV_small L (nextV k r) (fun x hx => h x (by simp [hx]))
    simp only [endV, List.length_cons]
    unfold nextV at h2 ⊢
    omega
set_option maxHeartbeats 1000000 in
set_option maxRecDepth 100000 in
theorem markLinesV_any {B g n cap k : Nat} {L : List VAt} {rest : List MRow} {w : World} (hB : B ≤ w.heap.size) (h : VM B w (.slice (some ⟨g, 0, none⟩) n cap) L rest) (hn : L.length = n) (hn2 : n ≤ 1048576) (h1 : 1 ≤ k) (h2 : endV k L ≤ 4611686018427387904) :
    Calls Tryz.prog 29 #[.slice (some ⟨g, 0, none⟩) n cap, .int .i64 (k : Int)] w fun e w' => e = .returned (.int .i64 (endV k L : Int)) ∧ VM B w' (.slice (some ⟨g, 0, none⟩) n cap) (markVs k L) rest ∧ Below B w w' := by
  obtain ⟨E, hE⟩ : ∃ E, endV k L = E := ⟨_, rfl⟩
  obtain ⟨F, hF⟩ : ∃ F, markVs k L = F := ⟨_, rfl⟩
  have HE : Hid (endV k L = E) := hE
  have HF : Hid (markVs k L = F) := hF
  rw [hE] at h2
  rw [hE, hF]
  clear hE hF
  go_enter Tryz.func29, Tryz.ntmps29
  go_wp2
  go_loopw [1, 5] (fun q i wr => ∃ (kk : Nat) (D T : List VAt), i = .int .i64 (D.length : Int) ∧ q = .int .i64 (kk : Int) ∧ 1 ≤ kk ∧ D.length + T.length = n ∧ VM B wr (.slice (some ⟨g, 0, none⟩) n cap) (D ++ T) rest ∧ Below B w wr ∧ Hid (endV kk T = E) ∧ Hid (D ++ markVs kk T = F)) (fun _ i _ => n - (intOf i).toNat)
  case atStart => exact ⟨k, [], L, rfl, rfl, h1, by simpa using hn, h, Below.refl _ _, HE, HF⟩
  case round =>
    obtain ⟨kk, D, T, rfl, rfl, hk1, hDT, hm, hbw, hE, hF⟩ := hrel
    cases T with
    | nil =>
      have e1 := hE.out
      have e2 := hF.out
      simp only [endV, markVs, List.append_nil] at e1 e2 hm
      subst e1 e2
      simp only [List.length_nil, Nat.add_zero] at hDT
      clear hE hF HE HF h
      have hlt : ¬ ((D.length : Int) < (n : Int)) := by omega
      go_wp2
      go_ret
      exact ⟨rfl, hm, hbw⟩
    | cons r T =>
      have hE' : Hid (endV (nextV kk r) T = E) := hE.out
      have hF' : Hid (D ++ markVn kk r :: markVs (nextV kk r) T = F) := hF.out
      have hkE : nextV kk r ≤ E := by have := endV_le T (nextV kk r); rw [hE'.out] at this; exact this
      clear hE hF HE HF h
      simp only [List.length_cons] at hDT
      unfold nextV at hkE
      have HM := fun W => markText_any kk W hk1 (by omega)
      have hlt : ((D.length : Int) < (n : Int)) := by omega
      go_wp2_with (go_at_call 81; refine (HM _).mono ?_)
      rintro e w1 ⟨rfl, b1⟩
      have m1 := hm.below b1
      have hnn : (D ++ r :: T).length = n := by simp; omega
      have c0 := m1.cell 0 (by decide)
      have c1 := m1.cell 1 (by decide)
      have f0 := (m1.size hnn).frozenAt (D.length * 2)
      have m2 := m1.set hnn 0 (.string ⟨(markL kk).toArray⟩) { r with key := ⟨(markL kk).toArray⟩ } (by decide) rfl rfl
      have d1 := m2.cell 1 (by decide)
      simp only [VAt.cells, List.getElem?_cons_zero, List.getElem?_cons_succ, Nat.add_zero] at c0 c1 d1 m2
      have d1 : World.cell? _ ⟨g, D.length * 2 + 1, none⟩ = some r.v := d1
      have o2 : World.ownsRow _ B 9 1 (.slice (some ⟨r.g, 0, none⟩) (r.xs.length + 1) r.wc) (r.xs.length + 1) (strs (r.x :: r.xs)) := m2.words
      have B2 := (hbw.trans (b1.mono (Nat.le_trans hB hbw.size))).setCell (p := ⟨g, D.length * 2, none⟩) hm.own_lt (.string ⟨(markL kk).toArray⟩)
      have HS := markStrings_v (r := r) (k := kk + 1) o2 (by omega) (by omega)
      rw [show ((kk + 1 : Nat) : Int) = (kk : Int) + 1 from by omega] at HS
      clear HM hm b1 m1
      go_wp2_with (go_at_call 82; refine HS.mono ?_)
      rintro e w5 ⟨rfl, o5, g5⟩
      have m5 := m2.turn (marks (kk + 1) r.xs.length) (marks_length _ _) o5 g5
      have B5 := B2.grown g5 (Nat.le_trans hB B2.size) (fun x hx => (o2.lt x hx).1)
      clear m2 o2 o5 g5 HS c0 c1 d1 f0
      go_wp2
      go_roundw
      case rel =>
        refine ⟨nextV kk r, D ++ [markVn kk r], T, by simp, by unfold nextV; go_num, by unfold nextV; omega, by simp; omega, ?_, B5, hE', by rw [List.append_assoc]; exact hF'⟩
        rw [List.append_assoc]; exact m5
      case measure => simp [intOf]; omega
set_option maxHeartbeats 1000000 in
set_option maxRecDepth 100000 in
theorem heldLinesV_any {B g n cap k : Nat} {L : List VAt} {w : World} (h : VOwn B w (.slice (some ⟨g, 0, none⟩) n cap) (markVs k L)) (hn : L.length = n) (hn2 : n ≤ 1048576) (h1 : 1 ≤ k) (h2 : endV k L ≤ 4611686018427387904) :
    Calls Tryz.prog 30 #[.slice (some ⟨g, 0, none⟩) n cap, .int .i64 (k : Int)] w fun e w' => e = .returned (.int .i64 (endV k L : Int)) ∧ Below w.heap.size w w' := by
  obtain ⟨E, hE⟩ : ∃ E, endV k L = E := ⟨_, rfl⟩
  obtain ⟨F, hF⟩ : ∃ F, markVs k L = F := ⟨_, rfl⟩
  have HE : Hid (endV k L = E) := hE
  have HF : Hid (markVs k L = F) := hF
  rw [hE] at h2
  rw [hF] at h
  rw [hE]
  clear hE hF
  go_enter Tryz.func30, Tryz.ntmps30
  go_wp2
  go_loopw [1, 5] (fun q i wr => ∃ (kk : Nat) (D T : List VAt), i = .int .i64 (D.length : Int) ∧ q = .int .i64 (kk : Int) ∧ 1 ≤ kk ∧ D.length + T.length = n ∧ Below w.heap.size w wr ∧ Hid (endV kk T = E) ∧ Hid (D ++ markVs kk T = F)) (fun _ i _ => n - (intOf i).toNat)
  case atStart => exact ⟨k, [], L, rfl, rfl, h1, by simpa using hn, Below.refl _ _, HE, HF⟩
  case round =>
    obtain ⟨kk, D, T, rfl, rfl, hk1, hDT, hbw, hE, hF⟩ := hrel
    cases T with
    | nil =>
      have e1 := hE.out
      simp only [endV] at e1
      subst e1
      simp only [List.length_nil, Nat.add_zero] at hDT
      clear hE hF HE HF h
      have hlt : ¬ ((D.length : Int) < (n : Int)) := by omega
      go_wp2
      go_ret
      exact ⟨rfl, hbw⟩
    | cons r T =>
      have hE' : Hid (endV (nextV kk r) T = E) := hE.out
      have hF' : Hid (D ++ markVn kk r :: markVs (nextV kk r) T = F) := hF.out
      have hkE : nextV kk r ≤ E := by have := endV_le T (nextV kk r); rw [hE'.out] at this; exact this
      have m0 : VM B wr (.slice (some ⟨g, 0, none⟩) n cap) (D ++ markVn kk r :: markVs (nextV kk r) T) [] := by rw [hF'.out]; exact h.vm.below hbw
      clear hE hF HE HF h
      simp only [List.length_cons] at hDT
      unfold nextV at hkE
      have HM := fun W => markText_any kk W hk1 (by omega)
      have hlt : ((D.length : Int) < (n : Int)) := by omega
      have c0 := m0.cell 0 (by decide)
      simp only [VAt.cells, markVn, List.getElem?_cons_zero, Nat.add_zero] at c0
      have lg := World.block_lt_of_cell? wr _ c0
      generalize (⟨(markL kk).toArray⟩ : ByteArray) = M at HM c0
      have hMM : (M.toList != M.toList) = false := by simp
      go_wp2
      go_region_held3 (fun W => W.cell? ⟨g, D.length * 2, none⟩ = some (.string M)) (first | go_keep | (exact (b1.cell lg).trans c0))
        (first | (go_at_call 81; refine (HM _).mono ?_; rintro e w1 ⟨rfl, b1⟩))
      all_goals
        have m1 := m0.below ((Below.refl wr.heap.size wr).drew.trans b1)
        have B1 := hbw.trans (((Below.refl wr.heap.size wr).drew.trans b1).mono hbw.size)
        have c1 : w1.cell? ⟨g, D.length * 2 + 1, none⟩ = some r.v := by rw [← markVn_v kk r]; exact m1.cell 1 (by decide)
        have o2 : w1.ownsRow B 9 1 (.slice (some ⟨r.g, 0, none⟩) ((marks (kk + 1) r.xs.length).length + 1) r.wc) ((marks (kk + 1) r.xs.length).length + 1) (strs (r.x :: marks (kk + 1) r.xs.length)) := m1.words
        rw [marks_length] at o2
        have HS := heldStrings_v (r := r) (k := kk + 1) o2 (by omega) (by omega)
        rw [show ((kk + 1 : Nat) : Int) = (kk : Int) + 1 from by omega] at HS
        have hpos2 : ¬ ((kk : Int) + 1 + (r.xs.length : Int) < 0) := by omega
        clear m0 m1 b1 HM c0 o2
        go_wp2_with (go_at_call 83; refine HS.mono ?_)
        first | rintro e w2 rfl b2 | rintro e w2 ⟨rfl, b2⟩
        have B2 := B1.trans (b2.mono B1.size)
        clear HS c1
        go_wp2
        go_roundw
        case rel => exact ⟨nextV kk r, D ++ [markVn kk r], T, by simp, by unfold nextV; go_num, by unfold nextV; omega, by simp; omega, B2, hE', by rw [List.append_assoc]; exact hF'⟩
        case measure => simp [intOf]; omega
theorem VM.form {B : Nat} {w : World} {v : Value} {C : List VAt} {rest : List MRow} (h : VM B w v C rest) : ∃ ao cap, v = .slice ao C.length cap ∧ (C = [] ∨ ∃ g, ao = some ⟨g, 0, none⟩) := by
  obtain ⟨ao, cap, e, hf⟩ := own_form h.own.row
  exact ⟨ao, cap, e, hf.imp (fun h0 => List.length_eq_zero_iff.1 h0) id⟩
theorem markLinesV_own {B k : Nat} {v : Value} {L : List VAt} {rest : List MRow} {w : World} (hB : B ≤ w.heap.size) (h : VM B w v L rest) (hn2 : L.length ≤ 1048576) (h1 : 1 ≤ k) (h2 : endV k L ≤ 4611686018427387904) :
    Calls Tryz.prog 29 #[v, .int .i64 (k : Int)] w fun e w' => e = .returned (.int .i64 (endV k L : Int)) ∧ VM B w' v (markVs k L) rest ∧ Below B w w' := by
  obtain ⟨ao, cap, rfl, hf⟩ := h.form
  rcases hf with rfl | ⟨g, rfl⟩
  · exact (markLines_zero ao cap k w).mono fun e w' h' => ⟨h'.1, by rw [h'.2]; exact h, by rw [h'.2]; exact Below.refl _ _⟩
  · exact markLinesV_any hB h rfl hn2 h1 h2
theorem heldLinesV_own {B k : Nat} {v : Value} {L : List VAt} {w : World} (h : VOwn B w v (markVs k L)) (hn2 : L.length ≤ 1048576) (h1 : 1 ≤ k) (h2 : endV k L ≤ 4611686018427387904) :
    Calls Tryz.prog 30 #[v, .int .i64 (k : Int)] w fun e w' => e = .returned (.int .i64 (endV k L : Int)) ∧ Below w.heap.size w w' := by
  obtain ⟨ao, cap, rfl, hf⟩ := h.vm.form
  rw [markVs_length] at *
  rcases hf with h0 | ⟨g, rfl⟩
  · obtain rfl : L = [] := List.length_eq_zero_iff.1 (by rw [← markVs_length L k, h0]; rfl)
    exact (heldLines_zero ao cap k w).mono fun e w' h' => ⟨h'.1, by rw [h'.2]; exact Below.refl _ _⟩
  · exact heldLinesV_any h rfl hn2 h1 h2
end Go.Proofs.YtpdahhnjhggocabGreatDoor
namespace Go.Proofs.YtpdahhnjhggocabGreatDoor
open Go.RowKit
def markGn (k : Nat) (r : VB) : VB := { r with kind := ⟨(markL k).toArray⟩, name := ⟨(markL (k + 1)).toArray⟩, ys := markVs (k + 2) r.ys }
def nextG (k : Nat) (r : VB) : Nat := endV (k + 2) r.ys
def markGs : Nat → List VB → List VB
  | _, [] => []
  | k, r :: L => markGn k r :: markGs (nextG k r) L
def endG : Nat → List VB → Nat
  | k, [] => k
  | k, r :: L => endG (nextG k r) L
theorem nextG_le (k : Nat) (r : VB) : k + 2 ≤ nextG k r := endV_le _ _
theorem endG_le : ∀ (L : List VB) (k : Nat), k ≤ endG k L
  | [], k => Nat.le_refl _
  | r :: L, k => Nat.le_trans (by have := nextG_le k r; omega) (endG_le L (nextG k r))
theorem markGs_length : ∀ (L : List VB) (k : Nat), (markGs k L).length = L.length
  | [], k => rfl
  | r :: L, k => by simp [markGs, markGs_length L]
theorem endG_small : ∀ (L : List VB) (k : Nat), (∀ r ∈ L, VSm r.ys) → endG k L ≤ k + 1099512676354 * L.length
  | [], k, _ => by simp [endG]
  | r :: L, k, h => by
    have h1 := h r (by simp)
    have h2 := endG_small L (nextG k r) (fun x hx => h x (by simp [hx]))
    have h3 := endV_small r.ys (k + 2) (fun x hx => (h1.2 x hx).1)
    have h4 := h1.1
    simp only [endG, List.length_cons]
    unfold nextG at h2 ⊢
    omega
theorem endG_fits {L : List VB} (h : GSm L) : endG 1 L ≤ 2305843009213693952 := by
  have h1 := endG_small L 1 (fun x hx => (h.2 x hx).2)
  have h2 := h.1
  omega
set_option maxHeartbeats 2000000 in
set_option maxRecDepth 100000 in
theorem markBlocksV_any {B g n cap k : Nat} {L : List VB} {rest : List MRow} {w : World} (hB : B ≤ w.heap.size) (h : GM B w (.slice (some ⟨g, 0, none⟩) n cap) L rest) (hn : L.length = n) (hn2 : n ≤ 1048576) (hs : ∀ x ∈ L, x.ys.length ≤ 1048576) (h1 : 1 ≤ k) (h2 : endG k L ≤ 4611686018427387904) :
    Calls Tryz.prog 58 #[.slice (some ⟨g, 0, none⟩) n cap, .int .i64 (k : Int)] w fun e w' => e = .returned (.int .i64 (endG k L : Int)) ∧ GM B w' (.slice (some ⟨g, 0, none⟩) n cap) (markGs k L) rest ∧ Below B w w' := by
  obtain ⟨E, hE⟩ : ∃ E, endG k L = E := ⟨_, rfl⟩
  obtain ⟨F, hF⟩ : ∃ F, markGs k L = F := ⟨_, rfl⟩
  have HE : Hid (endG k L = E) := hE
  have HF : Hid (markGs k L = F) := hF
  rw [hE] at h2
  rw [hE, hF]
  clear hE hF
  have HSM := hid_in hs
  clear hs
  go_enter Tryz.func58, Tryz.ntmps58
  go_wp2
  go_loopw [1, 5] (fun q i wr => ∃ (kk : Nat) (D T : List VB), i = .int .i64 (D.length : Int) ∧ q = .int .i64 (kk : Int) ∧ 1 ≤ kk ∧ D.length + T.length = n ∧ GM B wr (.slice (some ⟨g, 0, none⟩) n cap) (D ++ T) rest ∧ Below B w wr ∧ Hid (∀ x ∈ T, x.ys.length ≤ 1048576) ∧ Hid (endG kk T = E) ∧ Hid (D ++ markGs kk T = F)) (fun _ i _ => n - (intOf i).toNat)
  case atStart => exact ⟨k, [], L, rfl, rfl, h1, by simpa using hn, h, Below.refl _ _, HSM, HE, HF⟩
  case round =>
    obtain ⟨kk, D, T, rfl, rfl, hk1, hDT, hm, hbw, hsm, hE, hF⟩ := hrel
    cases T with
    | nil =>
      have e1 := hE.out
      have e2 := hF.out
      simp only [endG, markGs, List.append_nil] at e1 e2 hm
      subst e1 e2
      simp only [List.length_nil, Nat.add_zero] at hDT
      clear hE hF HE HF h hsm HSM
      have hlt : ¬ ((D.length : Int) < (n : Int)) := by omega
      go_wp2
      go_ret
      exact ⟨rfl, hm, hbw⟩
    | cons r T =>
      have hE' : Hid (endG (nextG kk r) T = E) := hE.out
      have hF' : Hid (D ++ markGn kk r :: markGs (nextG kk r) T = F) := hF.out
      have hkE : nextG kk r ≤ E := by have := endG_le T (nextG kk r); rw [hE'.out] at this; exact this
      have hsm' := hid_in (show ∀ x ∈ T, x.ys.length ≤ 1048576 from fun x hx => hsm.out x (by simp [hx]))
      have hrl : r.ys.length ≤ 1048576 := hsm.out r (by simp)
      have hNB := nextG_le kk r
      clear hE hF HE HF h hsm HSM
      simp only [List.length_cons] at hDT
      have HM := fun W => markText_any kk W hk1 (by omega)
      have HM2 := fun W => markText_any (kk + 1) W (by omega) (by omega)
      rw [show ((kk + 1 : Nat) : Int) = (kk : Int) + 1 from by omega] at HM2
      have hlt : ((D.length : Int) < (n : Int)) := by omega
      go_wp2_with (go_at_call 81; refine (HM _).mono ?_)
      rintro e w1 ⟨rfl, b1⟩
      have m1 := hm.below b1
      have hnn : ∀ x : VB, (D ++ x :: T).length = n := fun x => by simp; omega
      have c0 := m1.cell 0 (by decide)
      have f0 := (m1.size (hnn _)).frozenAt (D.length * 3)
      have m2 := m1.set (hnn _) 0 (.string ⟨(markL kk).toArray⟩) { r with kind := ⟨(markL kk).toArray⟩ } (by decide) rfl rfl
      simp only [VB.cells, List.getElem?_cons_zero, Nat.add_zero] at c0 m2
      have B2 := (hbw.trans (b1.mono (Nat.le_trans hB hbw.size))).setCell (p := ⟨g, D.length * 3, none⟩) hm.own_lt (.string ⟨(markL kk).toArray⟩)
      clear HM hm b1 m1
      generalize hw2 : w1.setCell ⟨g, D.length * 3, none⟩ (.string ⟨(markL kk).toArray⟩) = w2 at *
      go_wp2_with (go_at_call 81; refine (HM2 _).mono ?_)
      first | rintro e w3 rfl b3 | rintro e w3 ⟨rfl, b3⟩
      clear hw2
      have m3 := m2.below b3
      have d0 := m3.cell 1 (by decide)
      have f1 := (m3.size (hnn _)).frozenAt (D.length * 3 + 1)
      have m4 := m3.set (hnn _) 1 (.string ⟨(markL (kk + 1)).toArray⟩) { r with kind := ⟨(markL kk).toArray⟩, name := ⟨(markL (kk + 1)).toArray⟩ } (by decide) rfl rfl
      have d2 := m4.cell 2 (by decide)
      have e2 := m3.cell 2 (by decide)
      simp only [VB.cells, List.getElem?_cons_zero, List.getElem?_cons_succ] at d0 d2 e2
      have B4 := (B2.trans (b3.mono (Nat.le_trans hB B2.size))).setCell (p := ⟨g, D.length * 3 + 1, none⟩) m3.own_lt (.string ⟨(markL (kk + 1)).toArray⟩)
      have m4l := m4.lines
      have HS := markLinesV_own (k := kk + 2) (Nat.le_trans hB B4.size) m4l hrl (by omega) (by show nextG kk r ≤ _; omega)
      rw [show ((kk + 2 : Nat) : Int) = (kk : Int) + 1 + 1 from by omega] at HS
      clear m2 m3 b3 c0 f0
      go_wp2_with (go_at_call 29; refine HS.mono ?_)
      first | rintro e w5 rfl l5 b5 | rintro e w5 ⟨rfl, l5, b5⟩
      have m5 := hid_in (GM.back (r := { r with kind := ⟨(markL kk).toArray⟩, name := ⟨(markL (kk + 1)).toArray⟩ }) l5)
      have B5 := B4.trans b5
      have hE2 := hid_in (show endV (kk + 2) r.ys = nextG kk r from rfl)
      clear m4 m4l HS d0 d2 e2 f1 l5
      go_wp2
      go_roundw
      case rel =>
        refine ⟨nextG kk r, D ++ [markGn kk r], T, by simp, rfl, by omega, by simp; omega, ?_, B5, hsm', hE', by rw [List.append_assoc]; exact hF'⟩
        rw [List.append_assoc]; exact m5.out
      case measure => simp [intOf]; omega
set_option maxHeartbeats 2000000 in
set_option maxRecDepth 100000 in
theorem heldBlocksV_any {B g n cap k : Nat} {L : List VB} {w : World} (h : GOwn B w (.slice (some ⟨g, 0, none⟩) n cap) (markGs k L)) (hn : L.length = n) (hn2 : n ≤ 1048576) (hs : ∀ x ∈ L, x.ys.length ≤ 1048576) (h1 : 1 ≤ k) (h2 : endG k L ≤ 4611686018427387904) :
    Calls Tryz.prog 59 #[.slice (some ⟨g, 0, none⟩) n cap, .int .i64 (k : Int)] w fun e w' => e = .returned (.int .i64 (endG k L : Int)) ∧ Below w.heap.size w w' := by
  obtain ⟨E, hE⟩ : ∃ E, endG k L = E := ⟨_, rfl⟩
  obtain ⟨F, hF⟩ : ∃ F, markGs k L = F := ⟨_, rfl⟩
  have HE : Hid (endG k L = E) := hE
  have HF : Hid (markGs k L = F) := hF
  rw [hE] at h2
  rw [hF] at h
  rw [hE]
  clear hE hF
  have HSM := hid_in hs
  clear hs
  go_enter Tryz.func59, Tryz.ntmps59
  go_wp2
  go_loopw [1, 5] (fun q i wr => ∃ (kk : Nat) (D T : List VB), i = .int .i64 (D.length : Int) ∧ q = .int .i64 (kk : Int) ∧ 1 ≤ kk ∧ D.length + T.length = n ∧ Below w.heap.size w wr ∧ Hid (∀ x ∈ T, x.ys.length ≤ 1048576) ∧ Hid (endG kk T = E) ∧ Hid (D ++ markGs kk T = F)) (fun _ i _ => n - (intOf i).toNat)
  case atStart => exact ⟨k, [], L, rfl, rfl, h1, by simpa using hn, Below.refl _ _, HSM, HE, HF⟩
  case round =>
    obtain ⟨kk, D, T, rfl, rfl, hk1, hDT, hbw, hsm, hE, hF⟩ := hrel
    cases T with
    | nil =>
      have e1 := hE.out
      simp only [endG] at e1
      subst e1
      simp only [List.length_nil, Nat.add_zero] at hDT
      clear hE hF HE HF h hsm HSM
      have hlt : ¬ ((D.length : Int) < (n : Int)) := by omega
      go_wp2
      go_ret
      exact ⟨rfl, hbw⟩
    | cons r T =>
      have hE' : Hid (endG (nextG kk r) T = E) := hE.out
      have hF' : Hid (D ++ markGn kk r :: markGs (nextG kk r) T = F) := hF.out
      have hkE : nextG kk r ≤ E := by have := endG_le T (nextG kk r); rw [hE'.out] at this; exact this
      have hsm' := hid_in (show ∀ x ∈ T, x.ys.length ≤ 1048576 from fun x hx => hsm.out x (by simp [hx]))
      have hrl : r.ys.length ≤ 1048576 := hsm.out r (by simp)
      have hNB := nextG_le kk r
      have m0 : GM B wr (.slice (some ⟨g, 0, none⟩) n cap) (D ++ markGn kk r :: markGs (nextG kk r) T) [] := by rw [hF'.out]; exact h.gm.below hbw
      clear hE hF HE HF h hsm HSM
      simp only [List.length_cons] at hDT
      have HM := fun W => markText_any kk W hk1 (by omega)
      have HM2 := fun W => markText_any (kk + 1) W (by omega) (by omega)
      rw [show ((kk + 1 : Nat) : Int) = (kk : Int) + 1 from by omega] at HM2
      have hlt : ((D.length : Int) < (n : Int)) := by omega
      have c0 := m0.cell 0 (by decide)
      simp only [VB.cells, markGn, List.getElem?_cons_zero, Nat.add_zero] at c0
      have lg := World.block_lt_of_cell? wr _ c0
      generalize (⟨(markL kk).toArray⟩ : ByteArray) = M at HM c0
      have hMM : (M.toList != M.toList) = false := by simp
      go_wp2
      go_region_held3 (fun W => W.cell? ⟨g, D.length * 3, none⟩ = some (.string M)) (first | go_keep | (exact (b1.cell lg).trans c0))
        (first | (go_at_call 81; refine (HM _).mono ?_; rintro e w1 ⟨rfl, b1⟩))
      all_goals
        have m1 := m0.below ((Below.refl wr.heap.size wr).drew.trans b1)
        have B1 := hbw.trans (((Below.refl wr.heap.size wr).drew.trans b1).mono hbw.size)
        have c1 := m1.cell 1 (by decide)
        simp only [VB.cells, markGn, List.getElem?_cons_zero, List.getElem?_cons_succ] at c1
        have lg1 := World.block_lt_of_cell? w1 _ c1
        generalize (⟨(markL (kk + 1)).toArray⟩ : ByteArray) = M2 at HM2 c1
        have hMM2 : (M2.toList != M2.toList) = false := by simp
        clear m0 b1 HM c0
        go_wp2
        go_region_held3 (fun W => W.cell? ⟨g, D.length * 3 + 1, none⟩ = some (.string M2)) (first | go_keep | (exact (b2.cell lg1).trans c1))
          (first | (go_at_call 81; refine (HM2 _).mono ?_; rintro e w2 ⟨rfl, b2⟩))
        all_goals
          have m2 := m1.below ((Below.refl w1.heap.size w1).drew.trans b2)
          have B2 := B1.trans (((Below.refl w1.heap.size w1).drew.trans b2).mono B1.size)
          have c2 := m2.cell 2 (by decide)
          simp only [VB.cells, markGn, List.getElem?_cons_zero, List.getElem?_cons_succ] at c2
          have l2 : VOwn B w2 r.v (markVs (kk + 2) r.ys) := m2.lines.own
          have HS := heldLinesV_own (k := kk + 2) l2 hrl (by omega) (by show nextG kk r ≤ _; omega)
          rw [show ((kk + 2 : Nat) : Int) = (kk : Int) + 1 + 1 from by omega] at HS
          have hpos2 : ¬ ((endV (kk + 2) r.ys : Int) < 0) := by omega
          clear m1 m2 b2 HM2 c1 l2
          go_wp2_with (go_at_call 30; refine HS.mono ?_)
          first | rintro e w3 rfl b3 | rintro e w3 ⟨rfl, b3⟩
          have B3 := B2.trans (b3.mono B2.size)
          clear HS c2
          go_wp2
          go_roundw
          case rel => exact ⟨nextG kk r, D ++ [markGn kk r], T, by simp, rfl, by omega, by simp; omega, B3, hsm', hE', by rw [List.append_assoc]; exact hF'⟩
          case measure => simp [intOf]; omega
theorem GM.form {B : Nat} {w : World} {v : Value} {C : List VB} {rest : List MRow} (h : GM B w v C rest) : ∃ ao cap, v = .slice ao C.length cap ∧ (C = [] ∨ ∃ g, ao = some ⟨g, 0, none⟩) := by
  obtain ⟨ao, cap, e, hf⟩ := own_form h.own.row
  exact ⟨ao, cap, e, hf.imp (fun h0 => List.length_eq_zero_iff.1 h0) id⟩
theorem markBlocksV_own {B k : Nat} {v : Value} {L : List VB} {rest : List MRow} {w : World} (hB : B ≤ w.heap.size) (h : GM B w v L rest) (hn2 : L.length ≤ 1048576) (hs : ∀ x ∈ L, x.ys.length ≤ 1048576) (h1 : 1 ≤ k) (h2 : endG k L ≤ 4611686018427387904) :
    Calls Tryz.prog 58 #[v, .int .i64 (k : Int)] w fun e w' => e = .returned (.int .i64 (endG k L : Int)) ∧ GM B w' v (markGs k L) rest ∧ Below B w w' := by
  obtain ⟨ao, cap, rfl, hf⟩ := h.form
  rcases hf with rfl | ⟨g, rfl⟩
  · exact (markBlocks_zero ao cap k w).mono fun e w' h' => ⟨h'.1, by rw [h'.2]; exact h, by rw [h'.2]; exact Below.refl _ _⟩
  · exact markBlocksV_any hB h rfl hn2 hs h1 h2
theorem heldBlocksV_own {B k : Nat} {v : Value} {L : List VB} {w : World} (h : GOwn B w v (markGs k L)) (hn2 : L.length ≤ 1048576) (hs : ∀ x ∈ L, x.ys.length ≤ 1048576) (h1 : 1 ≤ k) (h2 : endG k L ≤ 4611686018427387904) :
    Calls Tryz.prog 59 #[v, .int .i64 (k : Int)] w fun e w' => e = .returned (.int .i64 (endG k L : Int)) ∧ Below w.heap.size w w' := by
  obtain ⟨ao, cap, rfl, hf⟩ := h.gm.form
  rw [markGs_length] at *
  rcases hf with h0 | ⟨g, rfl⟩
  · obtain rfl : L = [] := List.length_eq_zero_iff.1 (by rw [← markGs_length L k, h0]; rfl)
    exact (heldBlocks_zero ao cap k w).mono fun e w' h' => ⟨h'.1, by rw [h'.2]; exact Below.refl _ _⟩
  · exact heldBlocksV_any h rfl hn2 hs h1 h2
set_option maxHeartbeats 1000000 in
set_option maxRecDepth 100000 in
theorem markSheetV_own {B k : Nat} {v : Value} {L : List VB} {rest : List MRow} {w : World} (hB : B ≤ w.heap.size) (h : GM B w v L rest) (hn2 : L.length ≤ 1048576) (hs : ∀ x ∈ L, x.ys.length ≤ 1048576) (h1 : 1 ≤ k) (h2 : endG k L ≤ 4611686018427387904) :
    Calls Tryz.prog 16 #[.agg #[v], .int .i64 (k : Int)] w fun e w' => e = .returned (.int .i64 (endG k L : Int)) ∧ GM B w' v (markGs k L) rest ∧ Below B w w' := by
  have G := (Below.refl w.heap.size w).alloc (Nat.le_refl _) (.cells #[v] 24)
  have k0 := one_box (w := w) (cs := #[v]) (T := 24) 0
  simp only [List.getElem?_toArray, List.getElem?_cons_zero] at k0
  have HE := markBlocksV_own (k := k) (Nat.le_trans hB G.size) (h.below G) hn2 hs h1 h2
  obtain ⟨ao, cap, rfl, _⟩ := h.form
  generalize endG k L = E at *
  generalize markGs k L = F at *
  clear h hs hn2
  generalize L.length = n at *
  go_enter Tryz.func16, Tryz.ntmps16
  go_wp2_with (go_at_call 58; refine HE.mono ?_)
  first | rintro e w2 rfl b2 b3 | rintro e w2 ⟨rfl, b2, b3⟩
  go_wp2
  go_ret
  exact ⟨rfl, b2, (G.mono hB).trans b3⟩
set_option maxHeartbeats 1000000 in
set_option maxRecDepth 100000 in
theorem heldSheetV_own {B k : Nat} {v : Value} {L : List VB} {w : World} (h : GOwn B w v (markGs k L)) (hn2 : L.length ≤ 1048576) (hs : ∀ x ∈ L, x.ys.length ≤ 1048576) (h1 : 1 ≤ k) (h2 : endG k L ≤ 4611686018427387904) :
    Calls Tryz.prog 17 #[.agg #[v], .int .i64 (k : Int)] w fun e w' => e = .returned (.int .i64 (endG k L : Int)) ∧ Below w.heap.size w w' := by
  have G := (Below.refl w.heap.size w).alloc (Nat.le_refl _) (.cells #[v] 24)
  have k0 := one_box (w := w) (cs := #[v]) (T := 24) 0
  simp only [List.getElem?_toArray, List.getElem?_cons_zero] at k0
  have HE := heldBlocksV_own (k := k) (h.below G) hn2 hs h1 h2
  obtain ⟨ao, cap, rfl, _⟩ := own_form h.row
  have hpos : ¬ ((endG k L : Int) < 0) := by omega
  generalize endG k L = E at *
  clear h hs hn2
  generalize (markGs k L).length = n at *
  go_enter Tryz.func17, Tryz.ntmps17
  go_wp2_with (go_at_call 59; refine HE.mono ?_)
  first | rintro e w2 rfl b2 | rintro e w2 ⟨rfl, b2⟩
  go_wp2
  go_ret
  exact ⟨rfl, G.trans (b2.mono (by simp))⟩
end Go.Proofs.YtpdahhnjhggocabGreatDoor
namespace Go.Proofs.YtpdahhnjhggocabGreatDoor
open Go.RowKit
def headAt (bs : List PBlock) (kind name : ByteArray) : Int := match bs.findIdx? (isHead kind name) with
  | none => -1
  | some j => (j : Int)
def HeadAt (bs : List BAt) (kind name : ByteArray) (e : Ending) : Prop := e = .returned (.int .i64 (headAt (bs.map BAt.plain) kind name))
theorem head_none {bs : List BAt} {kind name : ByteArray} (h : (bs.map BAt.plain).find? (isHead kind name) = none) : HeadAt bs kind name (.returned (.int .i64 (-1))) := by
  have : (bs.map BAt.plain).findIdx? (isHead kind name) = none := by
    rw [List.findIdx?_eq_none_iff]
    intro x hx
    have := List.find?_eq_none.1 h x hx
    simpa using this
  unfold HeadAt headAt
  rw [this]
theorem head_hit {D T : List BAt} {x : BAt} {kind name : ByteArray} (h : NoHead (D.map BAt.plain ++ x.plain :: T.map BAt.plain) kind name (D.map BAt.plain).length) (hx : isHead kind name x.plain = true) : HeadAt (D ++ x :: T) kind name (.returned (.int .i64 (D.length : Int))) := by
  have hn : (D.map BAt.plain).findIdx? (isHead kind name) = none := by
    rw [List.findIdx?_eq_none_iff]
    intro y hy
    unfold NoHead at h
    rw [List.take_append_of_le_length (Nat.le_refl _), List.take_length] at h
    exact h y hy
  have : ((D ++ x :: T).map BAt.plain).findIdx? (isHead kind name) = some D.length := by
    rw [List.map_append, List.map_cons, List.findIdx?_append, hn, List.findIdx?_cons, if_pos hx]; simp
  unfold HeadAt headAt
  rw [this]
theorem headAt_any {bs : List PBlock} {kind name : ByteArray} : (0 ≤ headAt bs kind name) ↔ bs.any (fun o => o.kind.toList == kind.toList && o.name.toList == name.toList) = true := by
  unfold headAt
  cases h : bs.findIdx? (isHead kind name) with
  | none =>
    have h1 := List.findIdx?_eq_none_iff.1 h
    constructor
    · intro h2; simp at h2
    · intro h2
      obtain ⟨y, hy, he⟩ := List.any_eq_true.1 h2
      have := h1 y hy
      rw [show isHead kind name y = (y.kind.toList == kind.toList && y.name.toList == name.toList) from rfl, he] at this
      cases this
  | some j =>
    constructor
    · intro _
      obtain ⟨hj, he, _⟩ := List.findIdx?_eq_some_iff_getElem.1 h
      exact List.any_eq_true.2 ⟨_, List.getElem_mem hj, he⟩
    · intro _; simp
set_option maxHeartbeats 2000000 in
set_option maxRecDepth 100000 in
theorem l3Find_at {v : Value} {bs : List BAt} (kind name : ByteArray) {w : World} (h : BlocksIn w v bs) (hl : bs.length ≤ 1048576) : Calls Tryz.prog 76 #[.agg #[v], .string kind, .string name] w fun e w' => HeadAt bs kind name e ∧ Below w.heap.size w w' := by
  obtain ⟨ao, cap, rfl⟩ := h.1.form
  have G := (Below.refl w.heap.size w).alloc (Nat.le_refl _) (.cells #[.slice ao bs.length cap] 24)
  have k0 := one_box (w := w) (cs := #[.slice ao bs.length cap]) (T := 24) 0
  simp only [List.getElem?_toArray, List.getElem?_cons_zero] at k0
  have h1 := h.below G
  clear h
  generalize hn : bs.length = n at *
  have en := hid_in hn
  clear hn
  go_enter Tryz.func76, Tryz.ntmps76
  go_wp2
  go_loop [7] (fun i => ∃ j : Nat, j ≤ n ∧ i = .int .i64 (j : Int) ∧ NoHead (bs.map BAt.plain) kind name j) (fun i => n - (intOf i).toNat)
  case atStart => exact ⟨0, by omega, rfl, NoHead.zero _ _ _⟩
  case round =>
    obtain ⟨j, hj, rfl, hA⟩ := hrel
    by_cases hlt : j < n
    · obtain ⟨D, x, T, rfl, hD⟩ := split1 bs j (by have := en.out; omega)
      obtain ⟨g, off, rfl, c1, c2, c3⟩ := h1.1.block
      have hA2 : NoHead (D.map BAt.plain ++ x.plain :: T.map BAt.plain) kind name (D.map BAt.plain).length := by rw [List.length_map, hD]; simpa using hA
      have hyes := hid_in (show isHead kind name x.plain = true → HeadAt (D ++ x :: T) kind name (.returned (.int .i64 (j : Int))) from fun hh => by rw [← hD]; exact head_hit hA2 hh)
      have hno := hid_in (show isHead kind name x.plain = false → NoHead ((D ++ x :: T).map BAt.plain) kind name (j + 1) from fun hh => by have := hA2.succ hh; rw [List.length_map, hD] at this; simpa using this)
      rw [hD] at c1 c2 c3
      have hd : isHead kind name x.plain = ((x.kind.toList == kind.toList) && (x.name.toList == name.toList)) := rfl
      rw [hd] at hyes hno
      have hB0 : (0 : Int) ≤ (j : Int) := by omega
      have hB1 : (j : Int) < (n : Int) := by omega
      clear h1 hA hA2 hd hD en
      generalize x.kind = xk at *
      generalize x.name = xn at *
      cases h1 : (xk.toList == kind.toList)
      · have HN := hid_in (hno.out (by rw [h1]; rfl))
        clear hyes hno
        go_wp2
        go_round
        case rel => exact ⟨j + 1, by omega, by go_num, HN.out⟩
        case measure => simp [intOf]; omega
      · cases h2 : (xn.toList == name.toList)
        · have HN := hid_in (hno.out (by rw [h1, h2]; rfl))
          clear hyes hno
          go_wp2
          go_round
          case rel => exact ⟨j + 1, by omega, by go_num, HN.out⟩
          case measure => simp [intOf]; omega
        · have HN := hid_in (hyes.out (by rw [h1, h2]; rfl))
          clear hyes hno
          go_wp2
          go_ret
          exact ⟨HN.out, G⟩
    · obtain rfl : j = n := by omega
      have HN := hid_in (show HeadAt bs kind name (.returned (.int .i64 (-1))) from head_none (NoHead.none (by rw [List.length_map, en.out]; exact hA)))
      clear h1 hA
      go_wp2
      go_ret
      exact ⟨HN.out, G⟩
end Go.Proofs.YtpdahhnjhggocabGreatDoor
namespace Go.Proofs.YtpdahhnjhggocabGreatDoor
open Go.RowKit
def BegPost (done : List PBlock) (x : List UInt8) (xs : List (List UInt8)) (w : World) (e : Ending) (w' : World) : Prop := Below w.heap.size w w' ∧ (((stepW done none x xs).1 ≠ 0 ∧ e = .returned (.tuple #[.agg #[.string ⟨#[]⟩, .string ⟨#[]⟩, .slice none 0 0], .int .i64 (stepW done none x xs).1])) ∨ ((stepW done none x xs).1 = 0 ∧ ∃ nm, xs = [nm] ∧ e = .returned (.tuple #[.agg #[.string (keyOf x), .string (keyOf nm), .slice none 0 0], .int .i64 0])))
set_option maxHeartbeats 4000000 in
set_option maxRecDepth 100000 in
theorem l3Begin_any {v : Value} {bs : List BAt} {wa : Option Addr} {wc : Nat} {x : List UInt8} {xs : List (List UInt8)} {w : World} (hb : BlocksIn w v bs) (hl : bs.length ≤ 1048576) (hw : HasRow w (.slice wa (xs.length + 1) wc) (xs.length + 1) 1 (strs (x :: xs))) (h200 : ∀ y ∈ x :: xs, y.length ≤ 200) (hx7 : xs.length ≤ 7) : Calls Tryz.prog 48 #[.agg #[v], .slice wa (xs.length + 1) wc] w fun e w' => BegPost (bs.map BAt.plain) x xs w e w' := by
  obtain ⟨va, vc, rfl⟩ := hb.1.form
  have b0 := ((Below.refl w.heap.size w).alloc (Nat.le_refl _) (.cells #[.slice va bs.length vc] 24)).alloc (by simp) (.cells #[.string ⟨#[]⟩, .string ⟨#[]⟩, .slice none 0 0] 64)
  have y0 : ((w.alloc (.cells #[.slice va bs.length vc] 24)).alloc (.cells #[.string ⟨#[]⟩, .string ⟨#[]⟩, .slice none 0 0] 64)).heap[w.heap.size]? = some (.cells #[.slice va bs.length vc] 24 (0, 0)) := by
    rw [((Below.refl (w.alloc (.cells #[.slice va bs.length vc] 24)).heap.size (w.alloc (.cells #[.slice va bs.length vc] 24))).alloc (Nat.le_refl _) _).block w.heap.size (by simp)]; exact alloc_here w _
  have z0 : ((w.alloc (.cells #[.slice va bs.length vc] 24)).alloc (.cells #[.string ⟨#[]⟩, .string ⟨#[]⟩, .slice none 0 0] 64)).heap[w.heap.size + 1]? = some (.cells #[.string ⟨#[]⟩, .string ⟨#[]⟩, .slice none 0 0] 64 (0, 0)) := by
    have := alloc_here (w.alloc (.cells #[.slice va bs.length vc] 24)) (.cells #[.string ⟨#[]⟩, .string ⟨#[]⟩, .slice none 0 0] 64)
    rw [World.size_alloc] at this; exact this
  have hz1 : ((w.alloc (.cells #[.slice va bs.length vc] 24)).alloc (.cells #[.string ⟨#[]⟩, .string ⟨#[]⟩, .slice none 0 0] 64)).heap.size = w.heap.size + 2 := by simp
  have hb0 := hb.below b0
  by_cases hx1 : xs.length = 1
  · match xs, hx1, hw, h200 with
    | [nm], _, hw, h200 =>
      obtain ⟨g, off, rfl, k0⟩ := hw.word 0 (by simp)
      obtain ⟨g', off', e', k1⟩ := hw.word 1 (by simp)
      cases e'
      simp only [List.getElem_cons_zero, List.getElem_cons_succ, Nat.add_zero] at k0 k1
      have i0 := (b0.cell (World.block_lt_of_cell? _ _ k0)).trans k0
      have i1 := (b0.cell (World.block_lt_of_cell? _ _ k1)).trans k1
      have hnm : (keyOf nm).size ≤ 1048576 := by
        have := h200 nm (by simp)
        show nm.toArray.size ≤ 1048576
        rw [List.size_toArray]; omega
      have HOH := hid_in (show ∀ (code : Int) W, Below w.heap.size w W → code ≠ 0 → headFault (bs.map BAt.plain) (keyOf x) (keyOf nm) = code → BegPost (bs.map BAt.plain) x [nm] w (.returned (.tuple #[.agg #[.string ⟨#[]⟩, .string ⟨#[]⟩, .slice none 0 0], .int .i64 code])) W from fun code W hB hc he => ⟨hB, .inl (by rw [stepW_head, he]; exact ⟨hc, rfl⟩)⟩)
      have HOZ := hid_in (show ∀ W, Below w.heap.size w W → headFault (bs.map BAt.plain) (keyOf x) (keyOf nm) = 0 → BegPost (bs.map BAt.plain) x [nm] w (.returned (.tuple #[.agg #[.string (keyOf x), .string (keyOf nm), .slice none 0 0], .int .i64 0])) W from fun W hB he => ⟨hB, .inr (by rw [stepW_head, he]; exact ⟨rfl, nm, rfl, rfl⟩)⟩)
      generalize hw1 : (w.alloc (.cells #[.slice va bs.length vc] 24)).alloc (.cells #[.string ⟨#[]⟩, .string ⟨#[]⟩, .slice none 0 0] 64) = w1 at *
      have HS := specRules_any (keyOf x) w1
      have HN := fun W => l2NameOk_any (keyOf nm) W hnm
      have HB0 := hid_in b0
      have HBI := hid_in hb0
      have Y0 := hid_in y0
      have Z0 := hid_in z0
      have HL := hid_in hl
      clear hb hw h200 k0 k1 y0 z0 b0 hb0 hl
      go_enter Tryz.func48, Tryz.ntmps48
      go_wp2_with (go_at_call 68; (try rw [hw1]); refine HS.mono ?_)
      rintro e w2 ⟨vr, L, rfl, hp, hr, b2⟩
      obtain ⟨ao, cap, rfl, _⟩ := own_form (show w2.ownsRow w1.heap.size 105 4 vr L.length (L.flatMap RAt.cells) from Mem.head hr)
      have hLn : (rulesOf (keyOf x)).length = L.length := by rw [← hp, List.length_map]
      have hl12 : L.length ≤ 12 := by have := (rulesOf_like (keyOf x)).1; omega
      have HLN := hid_in hLn
      have B1 := HB0.out.trans (b2.mono HB0.out.size)
      have hzz := b2.size
      have hz2 := (b2.block (w.heap.size + 1) (by omega)).trans Z0.out
      have hy2 := (b2.block w.heap.size (by omega)).trans Y0.out
      have s0 := cell_of_block hz2 0
      have s1 := cell_of_block hz2 1
      have s2 := cell_of_block hz2 2
      have q0 := frozen_of_block hz2 0
      have q1 := frozen_of_block hz2 1
      have q2 := frozen_of_block hz2 2
      have n0 := cell_of_block hy2 0
      simp only [List.getElem?_toArray, List.getElem?_cons_zero, List.getElem?_cons_succ] at s0 s1 s2 n0
      have j0 := (b2.cell (World.block_lt_of_cell? _ _ i0)).trans i0
      have j1 := (b2.cell (World.block_lt_of_cell? _ _ i1)).trans i1
      have HBJ := hid_in (HBI.out.below b2)
      clear HS hp hr b2 i0 i1 hLn HBI Y0 Z0 HB0
      generalize L.length = nr at *
      by_cases hR : nr = 0
      · subst hR
        go_wp2
        exact bodyPost_ret (v := .tuple #[.agg #[.string ⟨#[]⟩, .string ⟨#[]⟩, .slice none 0 0], .int .i64 3]) (by simp [results, Tryz.results48, go_sem, s0, s1, s2]) rfl (HOH.out 3 _ (below_setCell (below_setCell (below_setCell B1 ⟨w.heap.size + 1, 0, none⟩ (by simp only; omega) _) ⟨w.heap.size + 1, 1, none⟩ (by simp only; omega) _) ⟨w.heap.size + 1, 2, none⟩ (by simp only; omega) _) (by decide) (by unfold headFault; rw [if_pos HLN.out]))
      · have hR' : ((nr : Int) == 0) = false := by rw [beq_eq_false_iff_ne]; omega
        have HRN := hid_in (show ¬ (rulesOf (keyOf x)).length = 0 by rw [HLN.out]; exact hR)
        cases hnb : nameB (keyOf nm).data.toList with
        | false =>
          rw [hnb] at HN
          have HNB := hid_in hnb
          clear hnb
          go_wp2_with (go_at_call 108; refine (HN _).mono ?_; rintro e w3 ⟨rfl, rfl⟩)
          exact bodyPost_ret (v := .tuple #[.agg #[.string ⟨#[]⟩, .string ⟨#[]⟩, .slice none 0 0], .int .i64 4]) (by simp [results, Tryz.results48, go_sem, s0, s1, s2]) rfl (HOH.out 4 _ (below_setCell (below_setCell (below_setCell B1 ⟨w.heap.size + 1, 0, none⟩ (by simp only; omega) _) ⟨w.heap.size + 1, 1, none⟩ (by simp only; omega) _) ⟨w.heap.size + 1, 2, none⟩ (by simp only; omega) _) (by decide) (by unfold headFault; rw [if_neg HRN.out, if_pos HNB.out]))
        | true =>
          rw [hnb] at HN
          have HNB := hid_in hnb
          clear hnb
          have HF : ∀ p : Gr w2, Calls Tryz.prog 76 #[.agg #[.slice va bs.length vc], .string ⟨x.toArray⟩, .string ⟨nm.toArray⟩] p.u fun e w' => e = .returned (.int .i64 (headAt (bs.map BAt.plain) (keyOf x) (keyOf nm))) ∧ Below p.u.heap.size p.u w' := fun p => l3Find_at (keyOf x) (keyOf nm) (HBJ.out.below p.h) HL.out
          have hAA := headAt_any (bs := bs.map BAt.plain) (kind := keyOf x) (name := keyOf nm)
          have u0 := fun p : Gr w2 => gr_cell j0 p
          have u1 := fun p : Gr w2 => gr_cell j1 p
          have u2 := fun p : Gr w2 => gr_cell n0 p
          have HAA := hid_in hAA
          have hlb : (bs.map BAt.plain).length = bs.length := List.length_map ..
          have HLB := hid_in hlb
          have hl' := HL.out
          clear hAA HBJ HL hlb
          generalize headAt (bs.map BAt.plain) (keyOf x) (keyOf nm) = hA at *
          generalize hnbs : bs.length = nb at *
          go_upto_region 7 with (go_at_call 108; refine (HN _).mono ?_; rintro e w3 ⟨rfl, rfl⟩)
          refine wp_region_gr (by kernel_rfl) (by kernel_rfl) ?_
          iterate 7 quiet_step (fail)
          quiet_step ((go_at_call 76; refine gr_of (HF _)))
          quiet_step (fail)
          refine wpQuiet_nil ?_
          rintro _ ⟨⟨wq, bq⟩, rfl⟩
          have B2 := B1.trans (bq.mono B1.size)
          have e0 := (bq.cell (World.block_lt_of_cell? _ _ j0)).trans j0
          have e1 := (bq.cell (World.block_lt_of_cell? _ _ j1)).trans j1
          have t0 := (bq.cell (World.block_lt_of_cell? _ _ s0)).trans s0
          have t1 := (bq.cell (World.block_lt_of_cell? _ _ s1)).trans s1
          have t2 := (bq.cell (World.block_lt_of_cell? _ _ s2)).trans s2
          have m0 := (bq.cell (World.block_lt_of_cell? _ _ n0)).trans n0
          have p0 := (bq.frozen (World.block_lt_of_cell? _ _ s0)).trans q0
          have p1 := (bq.frozen (World.block_lt_of_cell? _ _ s1)).trans q1
          have p2 := (bq.frozen (World.block_lt_of_cell? _ _ s2)).trans q2
          clear HF u0 u1 u2 j0 j1 s0 s1 s2 n0 q0 q1 q2 hz2 hy2 bq
          by_cases hh : 0 ≤ hA
          · go_wp2
            exact bodyPost_ret (v := .tuple #[.agg #[.string ⟨#[]⟩, .string ⟨#[]⟩, .slice none 0 0], .int .i64 9]) (by simp [results, Tryz.results48, go_sem, t0, t1, t2]) rfl (HOH.out 9 _ (below_setCell (below_setCell (below_setCell B2 ⟨w.heap.size + 1, 0, none⟩ (by simp only; omega) _) ⟨w.heap.size + 1, 1, none⟩ (by simp only; omega) _) ⟨w.heap.size + 1, 2, none⟩ (by simp only; omega) _) (by decide) (by unfold headFault; rw [if_neg HRN.out, if_neg (by rw [HNB.out]; simp), if_pos (HAA.out.1 hh)]))
          · by_cases h60 : 60 ≤ nb
            · have h60' : (60 : Int) ≤ (nb : Int) := by omega
              go_wp2
              exact bodyPost_ret (v := .tuple #[.agg #[.string ⟨#[]⟩, .string ⟨#[]⟩, .slice none 0 0], .int .i64 10]) (by simp [results, Tryz.results48, go_sem, t0, t1, t2]) rfl (HOH.out 10 _ (below_setCell (below_setCell (below_setCell B2 ⟨w.heap.size + 1, 0, none⟩ (by simp only; omega) _) ⟨w.heap.size + 1, 1, none⟩ (by simp only; omega) _) ⟨w.heap.size + 1, 2, none⟩ (by simp only; omega) _) (by decide) (by unfold headFault; rw [if_neg HRN.out, if_neg (by rw [HNB.out]; simp), if_neg (fun h => absurd (HAA.out.2 h) (by omega)), if_pos (by rw [HLB.out]; exact h60)]))
            · have h60' : ¬ (60 : Int) ≤ (nb : Int) := by omega
              go_wp2
              go_region
              go_wp2
              exact bodyPost_ret (v := .tuple #[.agg #[.string ⟨x.toArray⟩, .string ⟨nm.toArray⟩, .slice none 0 0], .int .i64 0]) (by simp [results, Tryz.results48, go_sem, t0, t1, t2]) rfl (HOZ.out _ (Below.drew (below_setCell (below_setCell (below_setCell B2 ⟨w.heap.size + 1, 0, none⟩ (by simp only; omega) _) ⟨w.heap.size + 1, 1, none⟩ (by simp only; omega) _) ⟨w.heap.size + 1, 2, none⟩ (by simp only; omega) _)) (by unfold headFault; rw [if_neg HRN.out, if_neg (by rw [HNB.out]; simp), if_neg (fun h => absurd (HAA.out.2 h) (by omega)), if_neg (by rw [HLB.out]; exact h60)]))
  · have hne : (((xs.length : Int) + 1) != 2) = true := by rw [bne_iff_ne]; omega
    have e0 := stepW_out (done := bs.map BAt.plain) (w := x) hx1
    have s0 := cell_of_block z0 0
    have s1 := cell_of_block z0 1
    have s2 := cell_of_block z0 2
    have q0 := frozen_of_block z0 0
    have q1 := frozen_of_block z0 1
    have q2 := frozen_of_block z0 2
    simp only [List.getElem?_toArray, List.getElem?_cons_zero, List.getElem?_cons_succ] at s0 s1 s2
    have HOH := hid_in (fun W (hB : Below w.heap.size w W) => (show BegPost (bs.map BAt.plain) x xs w (.returned (.tuple #[.agg #[.string ⟨#[]⟩, .string ⟨#[]⟩, .slice none 0 0], .int .i64 2])) W from ⟨hB, .inl (by rw [e0]; exact ⟨by simp, rfl⟩)⟩))
    have B0 := hid_in b0
    clear hb hw b0 z0 e0 h200 y0 hb0
    generalize bs.length = nb at *
    generalize xs.length = nx at *
    go_enter Tryz.func48, Tryz.ntmps48
    go_wp2
    exact bodyPost_ret (v := .tuple #[.agg #[.string ⟨#[]⟩, .string ⟨#[]⟩, .slice none 0 0], .int .i64 2]) (by simp [results, Tryz.results48, go_sem, s0, s1, s2]) rfl (HOH.out _ B0.out)
end Go.Proofs.YtpdahhnjhggocabGreatDoor
