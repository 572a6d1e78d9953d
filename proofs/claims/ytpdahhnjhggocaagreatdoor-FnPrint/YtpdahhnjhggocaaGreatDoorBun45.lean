import Derived.Test.YtpdahhnjhggocaaGreatDoorBun38
import Derived.Test.YtpdahhnjhggocaaGreatDoorBun32
import Derived.Test.YtpdahhnjhggocaaGreatDoorBun31
import Derived.Test.YtpdahhnjhggocaaGreatDoorBun30
import Derived.Test.YtpdahhnjhggocaaGreatDoorBun29
import Derived.Test.YtpdahhnjhggocaaGreatDoorBun27
import Derived.Test.YtpdahhnjhggocaaGreatDoorBun18
import Derived.WalkMore
namespace Go.Proofs.YtpdahhnjhggocaaGreatDoor
open Go.RowKit
def RdBox (R : Nat) (rest : ByteArray) (m : Nat) (W : World) : Prop := W.heap[R]? = some (.cells #[.string rest, .int .i64 (m : Int)] 198 (0, 0))
def flt (m : Nat) (code : Int) : Value := .iface 110 (.agg #[.int .i64 (m : Int), .int .i64 code])
set_option maxHeartbeats 400000 in
theorem fault_any {R m : Nat} {rest : ByteArray} {W : World} (h : RdBox R rest m W) (code : Int) : Calls Tryz.prog 232 #[.pointer (some ⟨R, 0, none⟩), .int .i64 code] W fun e w' => e = .returned (flt m code) ∧ w' = W := by
  have c1 := cell_of_block h 1
  simp only [List.getElem?_toArray, List.getElem?_cons_zero, List.getElem?_cons_succ] at c1
  go_enter Tryz.func232, Tryz.ntmps232
  go_wp2
  go_ret
  exact ⟨rfl, rfl⟩
def WordsPost (R n : Nat) (ls : List (List UInt8)) (w : World) (e : Ending) (w' : World) : Prop := w.grownBy w' (some R) ∧ match nextW n ls with
  | .ended m => e = .returned (.tuple #[.slice none 0 0, .nilIface]) ∧ RdBox R ⟨#[]⟩ m w'
  | .bad m => e = .returned (.tuple #[.slice none 0 0, flt m 1])
  | .words m x xs rest => ∃ a c r, e = .returned (.tuple #[.slice a (xs.length + 1) c, .nilIface]) ∧ textLines r.data.toList = rest ∧ r.size ≤ 1048576 ∧ RdBox R r m w' ∧ w'.ownsRow w.heap.size 9 1 (.slice a (xs.length + 1) c) (xs.length + 1) (strs (x :: xs))
def rdLen (R : Nat) (W : World) : Nat := match W.cell? ⟨R, 0, none⟩ with
  | some (.string s) => s.size
  | _ => 0
theorem RdBox.len {R m : Nat} {rest : ByteArray} {W : World} (h : RdBox R rest m W) : rdLen R W = rest.size := by
  have c0 := cell_of_block h 0
  simp only [List.getElem?_toArray, List.getElem?_cons_zero] at c0
  unfold rdLen; rw [c0]
def LoopRw (R n : Nat) (ls : List (List UInt8)) (w W : World) : Prop := ∃ (rest : ByteArray) (m : Nat), RdBox R rest (m + 1) W ∧ nextW m (textLines rest.data.toList) = nextW n ls ∧ rest.size ≤ 1048576 ∧ m + (textLines rest.data.toList).length = n + ls.length ∧ w.grownBy W (some R)
theorem RdBox.line {R m m' : Nat} {rest : ByteArray} {W : World} (h : RdBox R rest m W) : RdBox R rest m' (W.setCell ⟨R, 1, none⟩ (.int .i64 (m' : Int))) := by
  unfold RdBox at *
  rw [heap_setCell_same W R 1 _ _ _ h]; rfl
theorem RdBox.rest {R m : Nat} {rest rest' : ByteArray} {W : World} (h : RdBox R rest m W) : RdBox R rest' m (W.setCell ⟨R, 0, none⟩ (.string rest')) := by
  unfold RdBox at *
  rw [heap_setCell_same W R 0 _ _ _ h]; rfl
theorem RdBox.below {R m : Nat} {rest : ByteArray} {W W' : World} (h : RdBox R rest m W) (hb : Below W.heap.size W W') : RdBox R rest m W' := (hb.block R (Array.getElem?_eq_some_iff.1 h).1).trans h
theorem bytes_nil {s : ByteArray} (h : s.size = 0) : s = ⟨#[]⟩ := by
  cases s with
  | mk d => have : d = #[] := Array.eq_empty_of_size_eq_zero h; rw [this]
set_option maxHeartbeats 4000000 in
set_option maxRecDepth 100000 in
theorem words_any {R n : Nat} {rest : ByteArray} {w : World} (h : RdBox R rest n w) (hs : rest.size ≤ 1048576) (hn : n + (textLines rest.data.toList).length ≤ 1000000) : Calls Tryz.prog 186 #[.pointer (some ⟨R, 0, none⟩)] w fun e w' => WordsPost R n (textLines rest.data.toList) w e w' := by
  have c1 := cell_of_block h 1
  have f1 := frozen_of_block h 1
  simp only [List.getElem?_toArray, List.getElem?_cons_zero, List.getElem?_cons_succ] at c1
  have HL0 := hid_in (show LoopRw R n (textLines rest.data.toList) w (w.setCell ⟨R, 1, none⟩ (.int .i64 ((n + 1 : Nat) : Int))) from ⟨rest, n, h.line, rfl, hs, rfl, grown_setCell' w R 1 _⟩)
  have e1 : ((n + 1 : Nat) : Int) = (n : Int) + 1 := by omega
  rw [e1] at HL0
  generalize hls : textLines rest.data.toList = ls at *
  have hnl : n ≤ 1000000 := by omega
  clear h hs hls e1
  go_enter Tryz.func186, Tryz.ntmps186
  go_wp2
  go_loopw [] (fun wr => LoopRw R n ls w wr) (fun wr => rdLen R wr)
  case atStart => exact HL0.out
  case round =>
    clear HL0 c1 f1
    obtain ⟨rs, m, hB, hN, hsz, hml, hg⟩ := hrel
    have c0 := cell_of_block hB 0
    have c1 := cell_of_block hB 1
    have f0 := frozen_of_block hB 0
    have f1 := frozen_of_block hB 1
    simp only [List.getElem?_toArray, List.getElem?_cons_zero, List.getElem?_cons_succ] at c0 c1
    by_cases h0 : rs.size = 0
    · obtain rfl := bytes_nil h0
      have HO := hid_in (show WordsPost R n ls w (.returned (.tuple #[.slice none 0 0, .nilIface])) wr from ⟨hg, by rw [← hN]; exact ⟨rfl, hB⟩⟩)
      clear hB hN hml hg h0
      go_wp2
      go_ret2
      exact HO.out
    · have hne := ne_empty rs (by omega)
      have hnl0 : rs.data.toList ≠ [] := by
        intro e
        have : rs.data.toList.length = rs.size := by simp
        rw [e] at this; simp at this; omega
      have HC := strCut_any rs wr hsz
      have HBH := hid_in hB
      have HLW := hid_in hB.len
      clear hB
      go_wp2_with (go_at_call 230; refine HC.mono ?_)
      rintro e w2 ⟨x, y, bb, rfl, hcut, b2⟩
      have hlx := hcut.lines hnl0
      have hcl := hcut.len
      have hyl := hcut.lt hnl0
      have zx : x.data.toList.length = x.size := by simp
      have zy : y.data.toList.length = y.size := by simp
      have zr : rs.data.toList.length = rs.size := by simp
      rw [hlx] at hN hml
      have hB2 := HBH.out.below b2
      have hB3 := hB2.rest (rest' := y)
      have g3 := grown_trans (grown_trans hg (grown_of_below b2 (some R))) (grown_setCell' w2 R 0 (.string y))
      have d0 := cell_of_block hB2 0
      have k0 := frozen_of_block hB2 0
      simp only [List.getElem?_toArray, List.getElem?_cons_zero] at d0
      have HW := implWords_any x (w2.setCell ⟨R, 0, none⟩ (.string y)) (by omega)
      have hz3 := g3.size
      have HB3 := hid_in hB3
      have HG3 := hid_in g3
      have HNH := hid_in hN
      have HX := hid_in hlx
      have hmz : m ≤ 1000000 := by simp only [List.length_cons] at hml; omega
      clear HC hcut hlx hB2 hB3 g3 hN HBH c0 c1 f0 f1 hg b2 hnl0
      go_wp2_with (go_at_call 231; refine HW.mono ?_)
      rintro e w4 ⟨v, rfl, ho, b4⟩
      obtain ⟨wa, wc, rfl, _⟩ := own_form ho
      have hB4 := HB3.out.below b4
      have g4 := grown_trans HG3.out (grown_of_below b4 (some R))
      have hO4 := own_mono ho hz3
      clear HW HB3 HG3 ho d0 k0
      cases hc : cutL x.data.toList with
      | none =>
        simp only [hc, Option.isNone_none, Option.getD_none, List.length_nil] at hO4 ⊢
        have bx := (Below.refl w4.heap.size w4).alloc (Nat.le_refl _) (.cells #[.slice wa 0 wc, .bool true] 124)
        have hB5 := hB4.below bx
        have g5 := grown_trans g4 (grown_of_below bx (some R))
        have FA := fault_any hB5 1
        have HO := hid_in (show WordsPost R n ls w (.returned (.tuple #[.slice none 0 0, flt (m + 1) 1])) (w4.alloc (.cells #[.slice wa 0 wc, .bool true] 124)) from ⟨g5, by rw [← HNH.out, nextW_bad hc]⟩)
        clear hB4 hB5 g4 g5 hO4 HNH HX
        go_wp2_with (go_at_call 232; refine FA.mono ?_; rintro e w6 ⟨rfl, rfl⟩)
        go_ret2
        exact HO.out
      | some wl =>
        cases wl with
        | nil =>
          simp only [hc, Option.isNone_some, Option.getD_some, List.length_nil] at hO4 ⊢
          have bx := (Below.refl w4.heap.size w4).alloc (Nat.le_refl _) (.cells #[.slice wa 0 wc, .bool false] 124)
          have hB5 := hB4.below bx
          have g5 := grown_trans g4 (grown_of_below bx (some R))
          have c1 := cell_of_block hB5 1
          have f1 := frozen_of_block hB5 1
          simp only [List.getElem?_toArray, List.getElem?_cons_zero, List.getElem?_cons_succ] at c1
          have HO := hid_in (show LoopRw R n ls w ((w4.alloc (.cells #[.slice wa 0 wc, .bool false] 124)).setCell ⟨R, 1, none⟩ (.int .i64 ((m + 1 + 1 : Nat) : Int))) from ⟨y, m + 1, hB5.line, by rw [← HNH.out, nextW_blank hc], by omega, by simp only [List.length_cons] at hml; omega, grown_trans g5 (grown_setCell' _ R 1 _)⟩)
          have e2 : ((m + 1 + 1 : Nat) : Int) = ((m + 1 : Nat) : Int) + 1 := by omega
          rw [e2] at HO
          have hRl : rdLen R ((w4.alloc (.cells #[.slice wa 0 wc, .bool false] 124)).setCell ⟨R, 1, none⟩ (.int .i64 (((m + 1 : Nat) : Int) + 1))) = y.size := by rw [← e2]; exact (hB5.line (m' := m + 1 + 1)).len
          have HRL := hid_in hRl
          clear hB4 hB5 g4 g5 hO4 HNH HX hRl e2
          go_wp2
          go_roundw
          case rel => exact HO.out
          case measure =>
            have q := HRL.out
            rw [show ((m + 1 : Nat) : Int) = (m : Int) + 1 by omega] at q
            rw [q, HLW.out]
            omega
        | cons a ts =>
          simp only [hc, Option.isNone_some, Option.getD_some, List.length_cons] at hO4 ⊢
          have bx := (Below.refl w4.heap.size w4).alloc (Nat.le_refl _) (.cells #[.slice wa (ts.length + 1) wc, .bool false] 124)
          have hB5 := hB4.below bx
          have g5 := grown_trans g4 (grown_of_below bx (some R))
          have HO := hid_in (show WordsPost R n ls w (.returned (.tuple #[.slice wa (ts.length + 1) wc, .nilIface])) (w4.alloc (.cells #[.slice wa (ts.length + 1) wc, .bool false] 124)) from ⟨g5, by rw [← HNH.out, nextW_words hc]; exact ⟨wa, wc, y, rfl, rfl, by omega, hB5, own_below hO4 bx⟩⟩)
          clear hB4 hB5 g4 g5 hO4 HNH HX
          generalize ts.length = na at *
          have hna : ((na : Int) + 1 > 0) := by omega
          go_wp2
          go_ret2
          exact HO.out
end Go.Proofs.YtpdahhnjhggocaaGreatDoor
namespace Go.Proofs.YtpdahhnjhggocaaGreatDoor
open Go.RowKit
def BeginPost (done : List PBlock) (m : Nat) (x : List UInt8) (xs : List (List UInt8)) (w : World) (e : Ending) (w' : World) : Prop := Below w.heap.size w w' ∧ (((stepW done none x xs).1 ≠ 0 ∧ e = .returned (.tuple #[.agg #[.string ⟨#[]⟩, .string ⟨#[]⟩, .slice none 0 0], flt m (stepW done none x xs).1])) ∨ ((stepW done none x xs).1 = 0 ∧ ∃ nm, xs = [nm] ∧ e = .returned (.tuple #[.agg #[.string (keyOf x), .string (keyOf nm), .slice none 0 0], .nilIface])))
set_option maxHeartbeats 4000000 in
set_option maxRecDepth 100000 in
theorem begin_any {R m : Nat} {rest : ByteArray} {v : Value} {bs : List BAt} {wa : Option Addr} {wc : Nat} {x : List UInt8} {xs : List (List UInt8)} {w : World} (h : RdBox R rest m w) (hb : BlocksIn w v bs) (hl : bs.length ≤ 1048576) (hw : HasRow w (.slice wa (xs.length + 1) wc) (xs.length + 1) 1 (strs (x :: xs))) (h200 : ∀ y ∈ x :: xs, y.length ≤ 200) (hx7 : xs.length ≤ 7) : Calls Tryz.prog 187 #[.pointer (some ⟨R, 0, none⟩), v, .slice wa (xs.length + 1) wc] w fun e w' => BeginPost (bs.map BAt.plain) m x xs w e w' := by
  have b0 := (Below.refl w.heap.size w).alloc (Nat.le_refl _) (.cells #[.string ⟨#[]⟩, .string ⟨#[]⟩, .slice none 0 0] 46)
  have z0 := alloc_here w (.cells #[.string ⟨#[]⟩, .string ⟨#[]⟩, .slice none 0 0] 46)
  obtain ⟨va, vc, rfl⟩ := hb.1.form
  by_cases hx1 : xs.length = 1
  · match xs, hx1, hw, h200 with
    | [nm], _, hw, h200 =>
      obtain ⟨g, off, rfl, k0⟩ := hw.word 0 (by simp)
      obtain ⟨g', off', e', k1⟩ := hw.word 1 (by simp)
      cases e'
      simp only [List.getElem_cons_zero, List.getElem_cons_succ, Nat.add_zero] at k0 k1
      have l0 := World.block_lt_of_cell? _ _ k0
      have l1 := World.block_lt_of_cell? _ _ k1
      have i0 := (b0.cell l0).trans k0
      have i1 := (b0.cell l1).trans k1
      have hB0 := h.below b0
      have hb0 := hb.below b0
      have r0 := cell_of_block z0 0
      have r1 := cell_of_block z0 1
      have r2 := cell_of_block z0 2
      have q0 := frozen_of_block z0 0
      have q1 := frozen_of_block z0 1
      have q2 := frozen_of_block z0 2
      simp only [List.getElem?_toArray, List.getElem?_cons_zero, List.getElem?_cons_succ] at r0 r1 r2
      have hnm : (keyOf nm).size ≤ 1048576 := by
        have := h200 nm (by simp)
        show nm.toArray.size ≤ 1048576
        rw [List.size_toArray]; omega
      generalize hcode : headFault (bs.map BAt.plain) (keyOf x) (keyOf nm) = code
      have HO : ∀ W, Below w.heap.size w W → (code ≠ 0 → BeginPost (bs.map BAt.plain) m x [nm] w (.returned (.tuple #[.agg #[.string ⟨#[]⟩, .string ⟨#[]⟩, .slice none 0 0], flt m code])) W) ∧ (code = 0 → BeginPost (bs.map BAt.plain) m x [nm] w (.returned (.tuple #[.agg #[.string (keyOf x), .string (keyOf nm), .slice none 0 0], .nilIface])) W) := fun W hB => by
        constructor
        · intro hc
          exact ⟨hB, .inl (by rw [stepW_head, hcode]; exact ⟨hc, rfl⟩)⟩
        · intro hc
          exact ⟨hB, .inr (by rw [stepW_head, hcode]; exact ⟨hc, nm, rfl, rfl⟩)⟩
      have HOH := hid_in HO
      clear HO h hb hw h200 k0 k1 l0 l1 z0
      generalize hw1 : w.alloc (.cells #[.string ⟨#[]⟩, .string ⟨#[]⟩, .slice none 0 0] 46) = w1 at *
      have ew1 := hid_in hw1
      have hz1 : w1.heap.size = w.heap.size + 1 := by rw [← hw1]; simp
      clear hw1
      have HF : ∀ p : Gr w1, Calls Tryz.prog 66 #[.slice va bs.length vc, .string ⟨x.toArray⟩, .string ⟨nm.toArray⟩] p.u fun e w' => e = .returned (.int .i64 code) ∧ Below p.u.heap.size p.u w' := fun p => by
        have := headFault_any (keyOf x) (keyOf nm) (hb0.below p.h) hl hnm
        rw [hcode] at this
        exact this
      have u0 := fun p : Gr w1 => gr_cell i0 p
      have u1 := fun p : Gr w1 => gr_cell i1 p
      have HB0 := hid_in hB0
      have B0 := hid_in b0
      clear hb0 hcode hB0 b0
      generalize bs.length = nb at *
      go_enter Tryz.func187, Tryz.ntmps187
      go_upto_region 3 with fail
      rw [ew1.out]
      refine wp_region_gr (by kernel_rfl) (by kernel_rfl) ?_
      iterate 7 quiet_step (fail)
      quiet_step ((go_at_call 66; refine gr_of (HF _)))
      quiet_step (fail)
      refine wpQuiet_nil ?_
      rintro _ ⟨⟨wq, bq⟩, rfl⟩
      have B1 := B0.out.trans (bq.mono B0.out.size)
      have hBq := HB0.out.below bq
      have j0 := (bq.cell (World.block_lt_of_cell? _ _ i0)).trans i0
      have j1 := (bq.cell (World.block_lt_of_cell? _ _ i1)).trans i1
      have s0 := (bq.cell (World.block_lt_of_cell? _ _ r0)).trans r0
      have s1 := (bq.cell (World.block_lt_of_cell? _ _ r1)).trans r1
      have s2 := (bq.cell (World.block_lt_of_cell? _ _ r2)).trans r2
      have t0 := (bq.frozen (World.block_lt_of_cell? _ _ r0)).trans q0
      have t1 := (bq.frozen (World.block_lt_of_cell? _ _ r1)).trans q1
      have t2 := (bq.frozen (World.block_lt_of_cell? _ _ r2)).trans q2
      clear HF u0 u1 i0 i1 r0 r1 r2 q0 q1 q2
      by_cases hc : code = 0
      · subst hc
        clear hBq
        go_wp2
        go_region
        go_wp2
        exact bodyPost_ret (v := .tuple #[.agg #[.string ⟨x.toArray⟩, .string ⟨nm.toArray⟩, .slice none 0 0], .nilIface]) (by simp [results, Tryz.results187, go_sem, s0, s1, s2]) rfl ((HOH.out _ (Below.drew (below_setCell (below_setCell (below_setCell B1 ⟨w.heap.size, 0, none⟩ (Nat.le_refl _) _) ⟨w.heap.size, 1, none⟩ (Nat.le_refl _) _) ⟨w.heap.size, 2, none⟩ (Nat.le_refl _) _))).2 (by trivial))
      · have hcn : (code == 0) = false := by rw [beq_eq_false_iff_ne]; exact hc
        have FA := fault_any hBq code
        clear hBq j0 j1
        go_wp2_with (go_at_call 232; refine FA.mono ?_; rintro e w6 ⟨rfl, rfl⟩)
        exact bodyPost_ret (v := .tuple #[.agg #[.string ⟨#[]⟩, .string ⟨#[]⟩, .slice none 0 0], flt m code]) (by simp [results, Tryz.results187, go_sem, s0, s1, s2]) rfl ((HOH.out _ (below_setCell (below_setCell (below_setCell B1 ⟨w.heap.size, 0, none⟩ (Nat.le_refl _) _) ⟨w.heap.size, 1, none⟩ (Nat.le_refl _) _) ⟨w.heap.size, 2, none⟩ (Nat.le_refl _) _)).1 hc)
  · have hne : (((xs.length : Int) + 1) == 2) = false := by rw [beq_eq_false_iff_ne]; omega
    have FA := fault_any (h.below b0) 2
    have e0 := stepW_out (done := bs.map BAt.plain) (w := x) hx1
    have r0 := cell_of_block z0 0
    have r1 := cell_of_block z0 1
    have r2 := cell_of_block z0 2
    have q0 := frozen_of_block z0 0
    have q1 := frozen_of_block z0 1
    have q2 := frozen_of_block z0 2
    simp only [List.getElem?_toArray, List.getElem?_cons_zero, List.getElem?_cons_succ] at r0 r1 r2
    have HO := fun W (hB : Below w.heap.size w W) => (show BeginPost (bs.map BAt.plain) m x xs w (.returned (.tuple #[.agg #[.string ⟨#[]⟩, .string ⟨#[]⟩, .slice none 0 0], flt m 2])) W from ⟨hB, .inl (by rw [e0]; exact ⟨by simp, rfl⟩)⟩)
    have HOH := hid_in HO
    have B0 := hid_in b0
    clear HO h hb hw b0 z0 e0 h200
    generalize bs.length = nb at *
    generalize xs.length = nx at *
    go_enter Tryz.func187, Tryz.ntmps187
    go_wp2_with (go_at_call 232; refine FA.mono ?_; rintro e w6 ⟨rfl, rfl⟩)
    exact bodyPost_ret (v := .tuple #[.agg #[.string ⟨#[]⟩, .string ⟨#[]⟩, .slice none 0 0], flt m 2]) (by simp [results, Tryz.results187, go_sem]) rfl (HOH.out _ B0.out)
end Go.Proofs.YtpdahhnjhggocaaGreatDoor
namespace Go.Proofs.YtpdahhnjhggocaaGreatDoor
open Go.RowKit
def opa3_0 : Oper := { dst := some 17, op := Op.move (Operand.tmp 3), type := 52, pos := "l3_parse.go:179", after := #[], guard := none }
def opa3_1 : Oper := { dst := some 18, op := Op.indexAddr 52 (Operand.tmp 17) (Operand.const (Value.int IntKind.i64 0)), type := 0, pos := "l3_parse.go:179", after := #[{ on := 0, ground := Ground.data }], guard := none }
def opa3_2 : Oper := { dst := some 19, op := Op.load 9 (Operand.tmp 18), type := 9, pos := "l3_parse.go:179", after := #[{ on := 1, ground := Ground.data }], guard := none }
def opa3_3 : Oper := { dst := some 20, op := Op.move (Operand.tmp 3), type := 52, pos := "l3_parse.go:179", after := #[], guard := none }
def opa3_4 : Oper := { dst := some 21, op := Op.slice 52 (Operand.tmp 20) (some (Operand.const (Value.int IntKind.i64 1))) none none, type := 52, pos := "l3_parse.go:179", after := #[{ on := 3, ground := Ground.data }], guard := none }
def opa3_5 : Oper := { dst := some 22, op := Op.build 115 #[(0, Operand.tmp 19), (1, Operand.tmp 21)], type := 115, pos := "l3_parse.go:179", after := #[{ on := 2, ground := Ground.data }, { on := 4, ground := Ground.data }], guard := none }
def opa3_6 : Oper := { dst := some 10, op := Op.alloc 115, type := 0, pos := "l3_parse.go:179", after := #[], guard := none }
def opa3_7 : Oper := { dst := none, op := Op.store 115 (Operand.tmp 10) (Operand.tmp 22), type := 0, pos := "l3_parse.go:179", after := #[{ on := 6, ground := Ground.data }, { on := 5, ground := Ground.data }, { on := 0, ground := Ground.phase }, { on := 1, ground := Ground.phase }, { on := 2, ground := Ground.phase }, { on := 3, ground := Ground.phase }, { on := 4, ground := Ground.phase }, { on := 5, ground := Ground.phase }, { on := 6, ground := Ground.phase }], guard := none }
def opsa3 : List Oper := [opa3_0, opa3_1, opa3_2, opa3_3, opa3_4, opa3_5, opa3_6, opa3_7]
def A3F (W0 : World) (g n wc : Nat) (ta : Option Addr) (key : ByteArray) (i : Nat) (x : Value) (W : World) : Prop := match i with
  | 0 => x = (.slice (some ⟨g, 0, none⟩) (n + 1) wc)
  | 1 => x = (.pointer (some ⟨g, 0, none⟩))
  | 2 => x = .string key
  | 3 => x = (.slice (some ⟨g, 0, none⟩) (n + 1) wc)
  | 4 => x = (.slice ta n (wc - 1))
  | 5 => x = .agg #[.string key, (.slice ta n (wc - 1))]
  | 6 => ∃ R, x = .pointer (some ⟨R, 0, none⟩) ∧ W.heap[R]? = some (.cells #[.string ⟨#[]⟩, .slice none 0 0] 115 (0, 0)) ∧ W0.heap.size ≤ R
  | _ => True
set_option maxHeartbeats 2000000 in
set_option maxRecDepth 10000 in
theorem regionA3 {Q : Exit → Act → World → Prop} {a : Act} {W0 : World} {g n wc : Nat} {ta : Option Addr} {key : ByteArray} (hta : (if wc = 1 then some ⟨g, 0, none⟩ else some ⟨g, 1, none⟩ : Option Addr) = ta) (hk : W0.cell? ⟨g, 0, none⟩ = some (.string key)) (hwc : n + 1 ≤ wc) (hs : a.eval (.tmp 3) = (.slice (some ⟨g, 0, none⟩) (n + 1) wc)) (hsz : a.tmps.size = 36)
    (hQ : ∀ v a' R W', a' = putS a [17, 18, 19, 20, 21, 22, 10] v → v 6 = .pointer (some ⟨R, 0, none⟩) → W0.heap.size ≤ R → Below W0.heap.size W0 W' → W'.heap[R]? = some (.cells #[.string key, (.slice ta n (wc - 1))] 115 (0, 0)) → Q .normal a' W') : (Code.region 3 opsa3.toArray true).wp Tryz.prog Q a W0 := by
  have hnd : ([17, 18, 19, 20, 21, 22, 10] : List Nat).Nodup := by decide
  have i0 : (0 : Int) < (n : Int) + 1 := by omega
  have i1 : (1 : Int) ≤ (n : Int) + 1 := by omega
  have i2 : (n : Int) + 1 ≤ (wc : Int) := by omega
  refine wp_region_invS0 [17, 18, 19, 20, 21, 22, 10] (A3F W0 g n wc ta key) (fun _ W => Below W0.heap.size W0 W) 7 8 [0, 1, 2, 3, 4, 5, 6, 7] (by kernel_rfl) rfl (by decide) (by kernel_rfl) ?h1 (Below.refl _ _).drew ?hall
  case h1 =>
    intro i x W hi
    unfold A3F
    split <;> first | omega | trivial
  refine AllInv.consQ (o := opa3_0) [] (by kernel_rfl) (by decide) (by kernel_rfl) rfl ?o0 (AllInv.consQ (o := opa3_1) [0] (by kernel_rfl) (by decide) (by kernel_rfl) rfl ?o1 (AllInv.consQ (o := opa3_2) [1] (by kernel_rfl) (by decide) (by kernel_rfl) rfl ?o2 (AllInv.consQ (o := opa3_3) [] (by kernel_rfl) (by decide) (by kernel_rfl) rfl ?o3 (AllInv.consQ (o := opa3_4) [3] (by kernel_rfl) (by decide) (by kernel_rfl) rfl ?o4 (AllInv.consQ (o := opa3_5) [2, 4] (by kernel_rfl) (by decide) (by kernel_rfl) rfl ?o5 (AllInv.consQ (o := opa3_6) [] (by kernel_rfl) (by decide) (by kernel_rfl) rfl ?o6 (AllInv.lastQ (o := opa3_7) [6, 5, 0, 1, 2, 3, 4, 5, 6] (by kernel_rfl) (by kernel_rfl) rfl ?o7)))))))
  case o0 =>
    rintro Q' L _ W h0L hpre ⟨v, rfl, hv, hb⟩ K hK
    have r3 := (eval_out (v := v) (show 3 ∉ ([17, 18, 19, 20, 21, 22, 10] : List Nat) by decide)).trans hs
    have he : execOp (putS a [17, 18, 19, 20, 21, 22, 10] v).eval opa3_0 = execOp (Act.eval ⟨#[undef], []⟩) ⟨some 0, .move (.const (.slice (some ⟨g, 0, none⟩) (n + 1) wc)), 0, "", #[], none⟩ := by simp only [execOp, eval_const, opa3_0, r3]
    refine Lid.mk ?_
    unfold Oper.wp
    rw [he]
    clear he
    go_simp
    exact hK.out _ _ (InvG.nextL (W := W) hv 0 (.slice (some ⟨g, 0, none⟩) (n + 1) wc) (put_in 0 hnd rfl) (fun _ _ _ h => h) rfl hb)
  case o1 =>
    rintro Q' L _ W h0L hpre ⟨v, rfl, hv, hb⟩ K hK
    have r17 : (putS a [17, 18, 19, 20, 21, 22, 10] v).eval (.tmp 17) = _ := (eval_in 0 hnd rfl (by omega)).trans (hv 0 (hpre 0 (by simp)))
    have he : execOp (putS a [17, 18, 19, 20, 21, 22, 10] v).eval opa3_1 = execOp (Act.eval ⟨#[undef], []⟩) ⟨some 0, .indexAddr 52 (.const (.slice (some ⟨g, 0, none⟩) (n + 1) wc)) (.const (.int .i64 0)), 0, "", #[], none⟩ := by simp only [execOp, eval_const, opa3_1, r17]
    refine Lid.mk ?_
    unfold Oper.wp
    rw [he]
    clear he
    go_simp
    exact hK.out _ _ (InvG.nextL (W := W) hv 1 (.pointer (some ⟨g, 0, none⟩)) (put_in 1 hnd rfl) (fun _ _ _ h => h) rfl hb)
  case o2 =>
    rintro Q' L _ W h0L hpre ⟨v, rfl, hv, hb⟩ K hK
    have r18 : (putS a [17, 18, 19, 20, 21, 22, 10] v).eval (.tmp 18) = _ := (eval_in 1 hnd rfl (by omega)).trans (hv 1 (hpre 1 (by simp)))
    have k1 := (hb.cell (World.block_lt_of_cell? _ _ hk)).trans hk
    have he : execOp (putS a [17, 18, 19, 20, 21, 22, 10] v).eval opa3_2 = execOp (Act.eval ⟨#[undef], []⟩) ⟨some 0, .load 9 (.const (.pointer (some ⟨g, 0, none⟩))), 0, "", #[], none⟩ := by simp only [execOp, eval_const, opa3_2, r18]
    refine Lid.mk ?_
    unfold Oper.wp
    rw [he]
    clear he
    go_simp
    exact hK.out _ _ (InvG.nextL (W := W) hv 2 (.string key) (put_in 2 hnd rfl) (fun _ _ _ h => h) rfl hb)
  case o3 =>
    rintro Q' L _ W h0L hpre ⟨v, rfl, hv, hb⟩ K hK
    have r3 := (eval_out (v := v) (show 3 ∉ ([17, 18, 19, 20, 21, 22, 10] : List Nat) by decide)).trans hs
    have he : execOp (putS a [17, 18, 19, 20, 21, 22, 10] v).eval opa3_3 = execOp (Act.eval ⟨#[undef], []⟩) ⟨some 0, .move (.const (.slice (some ⟨g, 0, none⟩) (n + 1) wc)), 0, "", #[], none⟩ := by simp only [execOp, eval_const, opa3_3, r3]
    refine Lid.mk ?_
    unfold Oper.wp
    rw [he]
    clear he
    go_simp
    exact hK.out _ _ (InvG.nextL (W := W) hv 3 (.slice (some ⟨g, 0, none⟩) (n + 1) wc) (put_in 3 hnd rfl) (fun _ _ _ h => h) rfl hb)
  case o4 =>
    rintro Q' L _ W h0L hpre ⟨v, rfl, hv, hb⟩ K hK
    have r20 : (putS a [17, 18, 19, 20, 21, 22, 10] v).eval (.tmp 20) = _ := (eval_in 3 hnd rfl (by omega)).trans (hv 3 (hpre 3 (by simp)))
    have he : execOp (putS a [17, 18, 19, 20, 21, 22, 10] v).eval opa3_4 = execOp (Act.eval ⟨#[undef], []⟩) ⟨some 0, .slice 52 (.const (.slice (some ⟨g, 0, none⟩) (n + 1) wc)) (some (.const (.int .i64 1))) none none, 0, "", #[], none⟩ := by simp only [execOp, eval_const, opa3_4, r20, Option.map_some, Option.map_none]
    refine Lid.mk ?_
    unfold Oper.wp
    rw [he]
    clear he
    go_simp
    exact hK.out _ _ (InvG.nextL (W := W) hv 4 (.slice ta n (wc - 1)) (put_in 4 hnd rfl) (fun _ _ _ h => h) rfl hb)
  case o5 =>
    rintro Q' L _ W h0L hpre ⟨v, rfl, hv, hb⟩ K hK
    have r19 : (putS a [17, 18, 19, 20, 21, 22, 10] v).eval (.tmp 19) = _ := (eval_in 2 hnd rfl (by omega)).trans (hv 2 (hpre 2 (by simp)))
    have r21 : (putS a [17, 18, 19, 20, 21, 22, 10] v).eval (.tmp 21) = _ := (eval_in 4 hnd rfl (by omega)).trans (hv 4 (hpre 4 (by simp)))
    have he : execOp (putS a [17, 18, 19, 20, 21, 22, 10] v).eval opa3_5 = execOp (Act.eval ⟨#[undef], []⟩) ⟨some 0, .build 115 #[(0, .const (.string key)), (1, .const (.slice ta n (wc - 1)))], 0, "", #[], none⟩ := by simp only [execOp, eval_const, opa3_5, r19, r21, List.map_toArray, List.map_cons, List.map_nil]
    refine Lid.mk ?_
    unfold Oper.wp
    rw [he]
    clear he
    go_simp
    exact hK.out _ _ (InvG.nextL (W := W) hv 5 (.agg #[.string key, (.slice ta n (wc - 1))]) (put_in 5 hnd rfl) (fun _ _ _ h => h) rfl hb)
  case o6 =>
    rintro Q' L _ W h0L hpre ⟨v, rfl, hv, hb⟩ K hK
    have bx := (Below.refl W.heap.size W).alloc (Nat.le_refl _) (.cells #[.string ⟨#[]⟩, .slice none 0 0] 115)
    have he : execOp (putS a [17, 18, 19, 20, 21, 22, 10] v).eval opa3_6 = execOp (Act.eval ⟨#[undef], []⟩) ⟨some 0, .alloc 115, 0, "", #[], none⟩ := by kernel_rfl
    refine Lid.mk ?_
    unfold Oper.wp
    rw [he]
    clear he
    go_simp
    refine hK.out _ _ (InvG.nextL (W := W) hv 6 (.pointer (some ⟨W.heap.size, 0, none⟩)) (put_in 6 hnd rfl) (fun j y hj h => ?_) ⟨W.heap.size, rfl, alloc_here _ _, hb.size⟩ (hb.trans (bx.mono hb.size)))
    have h6 : j ≠ 6 := fun e => by rw [e, h0L] at hj; cases hj
    unfold A3F at *
    split <;> simp only at h
    all_goals first | exact h | exact absurd rfl h6 | trivial
  case o7 =>
    rintro Q' L _ W h0L hpre ⟨v, rfl, hv, hb⟩ K hK
    obtain ⟨R, e6, hz, hR⟩ := hv 6 (hpre 6 (by simp))
    have r10 : (putS a [17, 18, 19, 20, 21, 22, 10] v).eval (.tmp 10) = _ := (eval_in 6 hnd rfl (by omega)).trans e6
    have r22 : (putS a [17, 18, 19, 20, 21, 22, 10] v).eval (.tmp 22) = _ := (eval_in 5 hnd rfl (by omega)).trans (hv 5 (hpre 5 (by simp)))
    have g0 := cell_of_block hz 0
    have g1 := cell_of_block hz 1
    simp only [List.getElem?_toArray, List.getElem?_cons_zero, List.getElem?_cons_succ] at g0 g1
    have f0 := frozen_of_block hz 0
    have f1 := frozen_of_block hz 1
    have HZ := hid_in (show ((W.setCell ⟨R, 0, none⟩ (.string key)).setCell ⟨R, 1, none⟩ (.slice ta n (wc - 1))).heap[R]? = some (.cells #[.string key, (.slice ta n (wc - 1))] 115 (0, 0)) from by
      have z1 : (W.setCell ⟨R, 0, none⟩ (.string key)).heap[R]? = some (.cells #[.string key, .slice none 0 0] 115 (0, 0)) := by rw [heap_setCell_same W R 0 _ _ _ hz]; rfl
      rw [heap_setCell_same _ R 1 _ _ _ z1]; rfl)
    have HB := hid_in (below_setCell (below_setCell hb ⟨R, 0, none⟩ hR (.string key)) ⟨R, 1, none⟩ hR (.slice ta n (wc - 1)))
    have he : execOp (putS a [17, 18, 19, 20, 21, 22, 10] v).eval opa3_7 = execOp (Act.eval ⟨#[undef], []⟩) ⟨some 0, .store 115 (.const (.pointer (some ⟨R, 0, none⟩))) (.const (.agg #[.string key, (.slice ta n (wc - 1))])), 0, "", #[], none⟩ := by simp only [execOp, eval_const, opa3_7, r10, r22]
    refine Lid.mk ?_
    unfold Oper.wp
    rw [he]
    clear he
    go_simp
    exact hK.out _ _ (NoPanic.normal (hQ v _ R _ rfl e6 hR HB.out HZ.out))
end Go.Proofs.YtpdahhnjhggocaaGreatDoor
namespace Go.Proofs.YtpdahhnjhggocaaGreatDoor
open Go.RowKit
set_option maxHeartbeats 1000000 in
theorem add_open {R m : Nat} {rest : ByteArray} {vr ev : Value} {w : World} (h : RdBox R rest m w) : Calls Tryz.prog 188 #[.pointer (some ⟨R, 0, none⟩), vr, ev, .slice none 0 0] w fun e w' => e = .returned (.tuple #[.slice none 0 0, flt m 8]) ∧ w' = w := by
  have FA := fault_any h 8
  go_enter Tryz.func188, Tryz.ntmps188
  go_wp2_with (go_at_call 232; refine FA.mono ?_; rintro e w6 ⟨rfl, rfl⟩)
  go_ret2
  exact ⟨rfl, rfl⟩
def AddPost (R : List Plain) (B : Nat) (ev : Value) (es : List LAt) (m : Nat) (x : List UInt8) (xs : List (List UInt8)) (ta : Option Addr) (wc : Nat) (w : World) (e : Ending) (w' : World) : Prop :=
  (lineFault R (es.map LAt.plain) ⟨keyOf x, xs⟩ ≠ 0 ∧ e = .returned (.tuple #[.slice none 0 0, flt m (lineFault R (es.map LAt.plain) ⟨keyOf x, xs⟩)]) ∧ Below w.heap.size w w') ∨
  (lineFault R (es.map LAt.plain) ⟨keyOf x, xs⟩ = 0 ∧ ∃ a c, e = .returned (.tuple #[.slice a (es.length + 1) c, .nilIface]) ∧ w'.ownsRow B 115 2 (.slice a (es.length + 1) c) (es.length + 1) ((es ++ [(⟨keyOf x, .slice ta xs.length (wc - 1), xs⟩ : LAt)]).flatMap LAt.cells) ∧ ∃ W1, Below w.heap.size w W1 ∧ W1.grownBy w' ev.ownBlock ∧ ((Value.slice a (es.length + 1) c).ownBlock = ev.ownBlock ∨ (Value.slice a (es.length + 1) c).ownBlock = some W1.heap.size))
theorem tail_has {w : World} {g wc : Nat} {x : List UInt8} {xs : List (List UInt8)} {ta : Option Addr} (hta : (if wc = 1 then some ⟨g, 0, none⟩ else some ⟨g, 1, none⟩ : Option Addr) = ta) (hw : HasRow w (.slice (some ⟨g, 0, none⟩) (xs.length + 1) wc) (xs.length + 1) 1 (strs (x :: xs))) : HasRow w (.slice ta xs.length (wc - 1)) xs.length 1 (strs xs) := by
  have hcap := hw.cap
  obtain ⟨b, off, e, hc⟩ := hw.at (by omega)
  cases e
  refine ⟨by rw [strs_length]; omega, ta, wc - 1, rfl, ⟨by omega, by omega⟩, ?_⟩
  by_cases h0 : xs.length = 0
  · exact .inl h0
  · rw [if_neg (by omega)] at hta
    refine .inr ⟨g, 1, hta.symm, fun j u hj => ?_⟩
    have := hc (j + 1) u (by simpa [strs] using hj)
    rw [Nat.zero_add] at this
    rw [Nat.add_comm 1 j]; exact this
set_option maxHeartbeats 4000000 in
set_option maxRecDepth 100000 in
theorem add_any {R m B B2 g wc : Nat} {rest : ByteArray} {vr : Value} {L : List RAt} {ea : Option Addr} {ec : Nat} {es : List LAt} {x : List UInt8} {xs : List (List UInt8)} {ta : Option Addr} {w : World} (h : RdBox R rest m w) (hr : RulesAt B2 w vr L) (hsm : SmallR (L.map RAt.plain)) (hown : w.ownsRow B 115 2 (.slice ea es.length ec) es.length (es.flatMap LAt.cells)) (hB : B ≤ w.heap.size) (hin : ∀ y ∈ es, LineIn w y) (hel : es.length ≤ 1000000) (hew : ∀ y ∈ es, y.ws.length ≤ 1048576)
    (hw : HasRow w (.slice (some ⟨g, 0, none⟩) (xs.length + 1) wc) (xs.length + 1) 1 (strs (x :: xs))) (h200 : ∀ y ∈ x :: xs, y.length ≤ 200) (hx7 : xs.length ≤ 7) (hta : (if wc = 1 then some ⟨g, 0, none⟩ else some ⟨g, 1, none⟩ : Option Addr) = ta) (hst : StdAt w) :
    Calls Tryz.prog 188 #[.pointer (some ⟨R, 0, none⟩), vr, .slice ea es.length ec, .slice (some ⟨g, 0, none⟩) (xs.length + 1) wc] w fun e w' => AddPost (L.map RAt.plain) B (.slice ea es.length ec) es m x xs ta wc w e w' := by
  obtain ⟨b, off, e', k0⟩ := hw.word 0 (by simp)
  cases e'
  simp only [List.getElem_cons_zero, Nat.add_zero] at k0
  have hcap := hw.cap
  have htl := tail_has hta hw
  have hne : (((xs.length : Int) + 1) == 0) = false := by rw [beq_eq_false_iff_ne]; omega
  generalize hcode : lineFault (L.map RAt.plain) (es.map LAt.plain) ⟨keyOf x, xs⟩ = code
  obtain ⟨i0, hi, hz0, hz1, hz2⟩ := info_parts infoLine
  have HO1 := hid_in (show code ≠ 0 → ∀ W, Below w.heap.size w W → AddPost (L.map RAt.plain) B (.slice ea es.length ec) es m x xs ta wc w (.returned (.tuple #[.slice none 0 0, flt m code])) W from fun hc W hb => .inl ⟨by rw [hcode]; exact hc, by rw [hcode], hb⟩)
  have HO2 := hid_in (show code = 0 → ∀ a c W, W.ownsRow B 115 2 (.slice a (es.length + 1) c) (es.length + 1) ((es ++ [(⟨keyOf x, .slice ta xs.length (wc - 1), xs⟩ : LAt)]).flatMap LAt.cells) → (∃ W1, Below w.heap.size w W1 ∧ W1.grownBy W (Value.slice ea es.length ec).ownBlock ∧ ((Value.slice a (es.length + 1) c).ownBlock = (Value.slice ea es.length ec).ownBlock ∨ (Value.slice a (es.length + 1) c).ownBlock = some W1.heap.size)) → AddPost (L.map RAt.plain) B (.slice ea es.length ec) es m x xs ta wc w (.returned (.tuple #[.slice a (es.length + 1) c, .nilIface])) W from fun hc a c W ho hg => .inr ⟨by rw [hcode]; exact hc, a, c, rfl, ho, hg⟩)
  have HLF : ∀ W, Below w.heap.size w W → Calls Tryz.prog 135 #[vr, .slice ea es.length ec, .agg #[.string ⟨x.toArray⟩, .slice ta xs.length (wc - 1)]] W fun e w' => e = .returned (.int .i64 code) ∧ Below W.heap.size W w' := fun W hb => by
    have := lineFault_any (w := W) ⟨keyOf x, xs⟩ (hr.below hb) hsm ⟨(own_has hown).below hb, fun y hy => (hin y hy).below hb⟩ (by omega) hew (htl.below hb) (by simp only; omega) (fun y hy => Nat.le_trans (h200 y (List.mem_cons_of_mem _ hy)) (by decide)) (hst.below hb)
    rw [hcode] at this
    exact this
  have HOWN := hid_in hown
  have HBX := hid_in h
  obtain ⟨ra, rc, rfl⟩ : ∃ ra rc, vr = .slice ra L.length rc := by
    obtain ⟨ra, rc, e, _⟩ := own_form (Mem.head hr)
    exact ⟨ra, rc, e⟩
  clear h hr hown hin hew hw h200 hst htl hcode hsm
  generalize hne' : es.length = ne at *
  have ENE := hid_in hne'
  clear hne'
  generalize hnx : xs.length = nx at *
  clear hnx
  generalize L.length = nr at *
  go_enter Tryz.func188, Tryz.ntmps188
  go_upto_region 3 with fail
  refine regionA3 hta k0 hcap.1 (by kernel_rfl) (by kernel_rfl) ?_
  intro v a' Z W1 ha' hv6 hZ b1 hz
  simp only [putS, setS, List.setIfInBounds_toArray, List.set_cons_zero, List.set_cons_succ, hv6] at ha'
  subst ha'
  have HF := HLF W1 b1
  have c0 := cell_of_block hz 0
  have c1 := cell_of_block hz 1
  simp only [List.getElem?_toArray, List.getElem?_cons_zero, List.getElem?_cons_succ] at c0 c1
  go_wp2_with (go_at_call 135; refine HF.mono ?_)
  first | rintro e w2 rfl b2 | rintro e w2 ⟨rfl, b2⟩
  have B2' := b1.trans (b2.mono b1.size)
  have hBX := HBX.out.below B2'
  have d0 := (b2.cell (World.block_lt_of_cell? _ _ c0)).trans c0
  have d1 := (b2.cell (World.block_lt_of_cell? _ _ c1)).trans c1
  clear HF HLF c0 c1
  by_cases hc : code = 0
  · subst hc
    have hm3 := (own_below HOWN.out B2').alloc (.cells #[.string ⟨x.toArray⟩, .slice ta nx (wc - 1)] 115)
    have hrow := lit_has w2 #[.string ⟨x.toArray⟩, .slice ta nx (wc - 1)] 115 2 rfl
    have hone := lcells_one (ls := [⟨keyOf x, .slice ta nx (wc - 1), xs⟩]) (fun y hy => by rw [List.mem_singleton.1 hy]; exact ⟨_, _, _, rfl⟩)
    rw [List.flatMap_singleton] at hone
    have b3 := (Below.refl w2.heap.size w2).alloc (Nat.le_refl _) (.cells #[.string ⟨x.toArray⟩, .slice ta nx (wc - 1)] 115)
    have B3 := B2'.trans (b3.mono B2'.size)
    clear hBX
    go_wp2_with (at_builtin; refine wpList_append_has (by rfl) _ _ 44 (by rfl) B 115 i0 _ 2 40 Tryz.underlying44 hi hz0 hz1 hz2 rfl (by decide) _ ne _ (by rfl) hm3 _ 1 _ (by rfl) hrow hone ?c3 ?c4 (Nat.le_trans hB (Nat.le_trans B2'.size (by simp))) ?_)
    case c3 => unfold maxLen; omega
    case c4 => omega
    intro ao' cap' w5 hown5 hg5 hv5
    have HO := hid_in (HO2.out (by trivial) ao' cap' w5 (by rw [List.flatMap_append, List.flatMap_singleton]; exact hown5) ⟨_, B3, hg5, by rw [World.size_alloc]; exact hv5⟩)
    clear hm3 hrow hone hown5 hg5 d0 d1 HO1 HO2
    go_wp2
    go_ret2
    exact HO.out
  · have hcn : (code == 0) = false := by rw [beq_eq_false_iff_ne]; exact hc
    have FA := fault_any hBX code
    have HO := hid_in (HO1.out hc w2 B2')
    clear hBX d0 d1 HO1 HO2
    go_wp2_with (go_at_call 232; refine FA.mono ?_; rintro e w6 ⟨rfl, rfl⟩)
    go_ret2
    exact HO.out
end Go.Proofs.YtpdahhnjhggocaaGreatDoor
namespace Go.Proofs.YtpdahhnjhggocaaGreatDoor
open Go.RowKit
structure WAt where
  g : Nat
  wc : Nat
  x : List UInt8
  xs : List (List UInt8)
def WAt.ta (y : WAt) : Option Addr := if y.wc = 1 then some ⟨y.g, 0, none⟩ else some ⟨y.g, 1, none⟩
def WAt.l (y : WAt) : LAt := ⟨keyOf y.x, .slice y.ta y.xs.length (y.wc - 1), y.xs⟩
def WAt.r (y : WAt) : MRow := ⟨.slice (some ⟨y.g, 0, none⟩) (y.xs.length + 1) y.wc, 9, 1, y.xs.length + 1, strs (y.x :: y.xs)⟩
def WAt.sm (y : WAt) : Prop := y.xs.length ≤ 7 ∧ ∀ z ∈ y.x :: y.xs, z.length ≤ 200
structure GAt where
  kind : ByteArray
  name : ByteArray
  v : Value
  ys : List WAt
def GAt.b (b : GAt) : BAt := ⟨b.kind, b.name, b.v, b.ys.map WAt.l⟩
def plainL (ys : List WAt) : List PLine := (ys.map WAt.l).map LAt.plain
def plainG (gs : List GAt) : List PBlock := (gs.map GAt.b).map BAt.plain
def wrows (v : Value) (ys : List WAt) : List MRow := ⟨v, 115, 2, ys.length, (ys.map WAt.l).flatMap LAt.cells⟩ :: ys.map WAt.r
def grows (v : Value) (gs : List GAt) : List MRow := ⟨v, 46, 3, gs.length, (gs.map GAt.b).flatMap BAt.cells⟩ :: gs.flatMap (fun b => wrows b.v b.ys)
def boxR (Y : Nat) (k n : ByteArray) (v : Value) : MRow := ⟨.slice (some ⟨Y, 0, none⟩) 1 1, 46, 3, 1, [.string k, .string n, v]⟩
def rrows (v : Value) (L : List RAt) : List MRow := ⟨v, 54, 4, L.length, L.flatMap RAt.cells⟩ :: L.flatMap RAt.rows
theorem wat_in {B : Nat} {W : World} {y : WAt} (h : y.r.isAt B W) : LineIn W y.l := tail_has (x := y.x) (g := y.g) rfl (own_has h)
theorem wrows_in {B : Nat} {W : World} {v : Value} {ys : List WAt} (h : Mem B W (wrows v ys)) : LinesIn W v (ys.map WAt.l) := by
  refine ⟨?_, fun x hx => ?_⟩
  · have := own_has (Mem.head h)
    rw [List.length_map]; exact this
  · obtain ⟨y, hy, rfl⟩ := List.mem_map.1 hx
    exact wat_in (h.1 y.r (List.mem_cons_of_mem _ (List.mem_map_of_mem hy)))
theorem grows_lines {B : Nat} {W : World} {v : Value} {gs : List GAt} (h : Mem B W (grows v gs)) {b : GAt} (hb : b ∈ gs) : Mem B W (wrows b.v b.ys) := by
  obtain ⟨A, C, e⟩ := flat_split (fun b : GAt => wrows b.v b.ys) hb
  have h2 := Mem.tail h
  rw [e] at h2
  exact Mem.left (Mem.right h2)
theorem grows_in {B : Nat} {W : World} {v : Value} {gs : List GAt} (h : Mem B W (grows v gs)) : BlocksIn W v (gs.map GAt.b) := by
  refine ⟨?_, fun x hx => ?_⟩
  · have := own_has (Mem.head h)
    rw [List.length_map]; exact this
  · obtain ⟨b, hb, rfl⟩ := List.mem_map.1 hx
    exact wrows_in (grows_lines h hb)
theorem wat_small {ys : List WAt} (hl : ys.length ≤ 1048576) (h : ∀ y ∈ ys, y.sm) : LinesSmall (ys.map WAt.l) := by
  refine ⟨by rw [List.length_map]; exact hl, fun x hx => ?_⟩
  obtain ⟨y, hy, rfl⟩ := List.mem_map.1 hx
  exact ⟨Nat.le_trans (h y hy).1 (by decide), fun z hz => Nat.le_trans ((h y hy).2 z (List.mem_cons_of_mem _ hz)) (by decide)⟩
def GAt.sm (b : GAt) : Prop := b.name.size ≤ 200 ∧ b.ys.length ≤ 1000000 ∧ ∀ y ∈ b.ys, y.sm
theorem gat_small {gs : List GAt} (hl : gs.length ≤ 1048576) (h : ∀ b ∈ gs, b.sm) : BlocksSmall (gs.map GAt.b) := by
  refine ⟨by rw [List.length_map]; exact hl, fun x hx => ?_⟩
  obtain ⟨b, hb, rfl⟩ := List.mem_map.1 hx
  exact ⟨Nat.le_trans (h b hb).1 (by decide), wat_small (Nat.le_trans (h b hb).2.1 (by decide)) (h b hb).2.2⟩
def rdLines (R : Nat) (W : World) : Nat := match W.cell? ⟨R, 0, none⟩ with
  | some (.string s) => (textLines s.data.toList).length
  | _ => 0
theorem RdBox.lines {R m : Nat} {rest : ByteArray} {W : World} (h : RdBox R rest m W) : rdLines R W = (textLines rest.data.toList).length := by
  have c0 := cell_of_block h 0
  simp only [List.getElem?_toArray, List.getElem?_cons_zero] at c0
  unfold rdLines; rw [c0]
structure RdS (R : Nat) (w : World) (N : Nat) (L : List MRow) (rest : ByteArray) (m : Nat) (W : World) : Prop where
  mem : Mem w.heap.size W L
  box : RdBox R rest m W
  gr : w.grownBy W (some R)
  lt : R < w.heap.size
  sz : rest.size ≤ 1048576
  n : m + (textLines rest.data.toList).length = N
  big : N ≤ 1000000
theorem RdS.below {R : Nat} {w : World} {N : Nat} {L : List MRow} {rest : ByteArray} {m : Nat} {W W' : World} (h : RdS R w N L rest m W) (hb : Below W.heap.size W W') : RdS R w N L rest m W' :=
  ⟨h.mem.below hb, h.box.below hb, grown_trans h.gr (grown_of_below hb _), h.lt, h.sz, h.n, h.big⟩
theorem RdS.read {R : Nat} {w : World} {N : Nat} {L : List MRow} {rest r : ByteArray} {m m' wc g : Nat} {x : List UInt8} {xs rs : List (List UInt8)} {W W' : World} (h : RdS R w N L rest m W) (hn : nextW m (textLines rest.data.toList) = .words m' x xs rs) (hg : W.grownBy W' (some R)) (hr : textLines r.data.toList = rs) (hz : r.size ≤ 1048576) (hb : RdBox R r m' W') (ho : W'.ownsRow W.heap.size 9 1 (.slice (some ⟨g, 0, none⟩) (xs.length + 1) wc) (xs.length + 1) (strs (x :: xs))) : RdS R w N ((⟨g, wc, x, xs⟩ : WAt).r :: L) r m' W' := by
  have hl := nextW_len _ _ _ _ _ _ hn
  have h0 := h.gr.size
  refine ⟨?_, hb, grown_trans h.gr hg, h.lt, hz, by rw [hr, hl.2]; exact h.n, h.big⟩
  have h1 := Mem.other h.mem hg h.lt
  refine ⟨fun r' hr' => ?_, List.pairwise_cons.2 ⟨fun s hs => ?_, h1.2⟩⟩
  · rcases List.mem_cons.1 hr' with rfl | hr'
    · exact own_mono ho h0
    · exact h1.1 r' hr'
  · right
    intro e
    have h2 := (World.ownsRow.lt ho g rfl).1
    have h3 := (Mem.lt h.mem hs (g := g) (by rw [← e]; rfl)).2
    omega
end Go.Proofs.YtpdahhnjhggocaaGreatDoor
namespace Go.Proofs.YtpdahhnjhggocaaGreatDoor
open Go.RowKit
theorem box_isAt {B Y : Nat} {k n : ByteArray} {v : Value} {W : World} (h : W.heap[Y]? = some (.cells #[.string k, .string n, v] 46 (0, 0))) (hB : B ≤ Y) : (boxR Y k n v).isAt B W := ⟨rfl, .inr ⟨Y, 1, #[.string k, .string n, v], rfl, hB, h, Nat.le_refl _, by decide, rfl, rfl⟩⟩
theorem box_heap {B Y : Nat} {k n : ByteArray} {v : Value} {W : World} (h : (boxR Y k n v).isAt B W) : W.heap[Y]? = some (.cells #[.string k, .string n, v] 46 (0, 0)) := by
  have h' : W.ownsRow B 46 3 (.slice (some ⟨Y, 0, none⟩) 1 1) 1 [.string k, .string n, v] := h
  obtain ⟨_, h | ⟨g, cap, cur, e, _, hh, _, _, hs, ht⟩⟩ := h'
  · cases h.1
  · cases e
    have h3 : cur.toList = [.string k, .string n, v] := by
      have e2 : cur.toList.length = 3 := by simpa using hs
      rw [List.take_of_length_le (by omega)] at ht
      exact ht
    have : cur = #[.string k, .string n, v] := by
      apply Array.toList_inj.1; rw [h3]
    rw [hh, this]
theorem grows_form {B : Nat} {W : World} {v : Value} {gs : List GAt} (h : Mem B W (grows v gs)) : ∃ a c, v = .slice a gs.length c := by
  have h1 : W.ownsRow B 46 3 v gs.length ((gs.map GAt.b).flatMap BAt.cells) := Mem.head h
  obtain ⟨a, c, e, _⟩ := own_form h1
  exact ⟨a, c, e⟩
theorem wrows_form {B : Nat} {W : World} {v : Value} {ys : List WAt} (h : Mem B W (wrows v ys)) : ∃ a c, v = .slice a ys.length c := by
  have h1 : W.ownsRow B 115 2 v ys.length ((ys.map WAt.l).flatMap LAt.cells) := Mem.head h
  obtain ⟨a, c, e, _⟩ := own_form h1
  exact ⟨a, c, e⟩
theorem row_form {B n c : Nat} {W : World} {a : Option Addr} {xs : List Value} (h : W.ownsRow B 9 1 (.slice a (n + 1) c) (n + 1) xs) : ∃ g, a = some ⟨g, 0, none⟩ := by
  obtain ⟨a', c', e, h0⟩ := own_form h
  cases e
  rcases h0 with h0 | h0
  · omega
  · exact h0
theorem RdS.rows {R : Nat} {w : World} {N : Nat} {L L' : List MRow} {rest : ByteArray} {m : Nat} {W : World} (h : RdS R w N L rest m W) (hm : Mem w.heap.size W L') : RdS R w N L' rest m W := ⟨hm, h.box, h.gr, h.lt, h.sz, h.n, h.big⟩
theorem Mem.consNone {B : Nat} {W : World} {L : List MRow} {r : MRow} (h : Mem B W L) (hr : r.isAt B W) (h0 : r.v.ownBlock = none) : Mem B W (r :: L) := ⟨fun s hs => by
  rcases List.mem_cons.1 hs with rfl | hs
  · exact hr
  · exact h.1 s hs, List.pairwise_cons.2 ⟨fun s _ => .inl h0, h.2⟩⟩
def openR (Y : Nat) (kind name : ByteArray) (lv vr bv : Value) (ys : List WAt) (L : List RAt) (gs : List GAt) : List MRow := boxR Y kind name lv :: (rrows vr L ++ (wrows lv ys ++ grows bv gs))
theorem open_start {B Y : Nat} {kind name : ByteArray} {vr bv : Value} {L : List RAt} {gs : List GAt} {W3 W4 W5 : World} (h : Mem B W3 (grows bv gs)) (hB : B ≤ W3.heap.size) (hb : Below W3.heap.size W3 W4) (hY : W4.heap[Y]? = some (.cells #[.string kind, .string name, .slice none 0 0] 46 (0, 0))) (hYl : W3.heap.size ≤ Y) (hr : RulesAt W4.heap.size W5 vr L) (hb5 : Below W4.heap.size W4 W5) : Mem B W5 (openR Y kind name (.slice none 0 0) vr bv [] L gs) := by
  have h1 : Mem B W3 (wrows (.slice none 0 0) [] ++ grows bv gs) := Mem.consNone h (own_nil rfl rfl) rfl
  have h2 : Mem B W4 (boxR Y kind name (.slice none 0 0) :: (wrows (.slice none 0 0) [] ++ grows bv gs)) := Mem.cons h1 (box_isAt hY hYl) hb hB
  have h3 := Mem.join h2 hr hb5 (Nat.le_trans hB hb.size)
  exact Mem.perm h3 (List.perm_middle)
theorem open_box {B Y : Nat} {kind name : ByteArray} {lv vr bv : Value} {ys : List WAt} {L : List RAt} {gs : List GAt} {W : World} (h : Mem B W (openR Y kind name lv vr bv ys L gs)) : W.heap[Y]? = some (.cells #[.string kind, .string name, lv] 46 (0, 0)) := box_heap (h.1 _ (List.mem_cons_self ..))
theorem open_rules {B Y : Nat} {kind name : ByteArray} {lv vr bv : Value} {ys : List WAt} {L : List RAt} {gs : List GAt} {W : World} (h : Mem B W (openR Y kind name lv vr bv ys L gs)) : RulesAt B W vr L := Mem.left (Mem.tail h)
theorem open_lines {B Y : Nat} {kind name : ByteArray} {lv vr bv : Value} {ys : List WAt} {L : List RAt} {gs : List GAt} {W : World} (h : Mem B W (openR Y kind name lv vr bv ys L gs)) : Mem B W (wrows lv ys) := Mem.left (Mem.right (Mem.tail h))
theorem open_done {B Y : Nat} {kind name : ByteArray} {lv vr bv : Value} {ys : List WAt} {L : List RAt} {gs : List GAt} {W : World} (h : Mem B W (openR Y kind name lv vr bv ys L gs)) : Mem B W (grows bv gs) := Mem.right (Mem.right (Mem.tail h))
theorem open_add {B Y : Nat} {kind name : ByteArray} {lv lv' vr bv : Value} {ys : List WAt} {y : WAt} {L : List RAt} {gs : List GAt} {W W1 W2 : World} (h : Mem B W (y.r :: openR Y kind name lv vr bv ys L gs)) (hb : Below W.heap.size W W1) (ho : W2.ownsRow B 115 2 lv' (ys.length + 1) (((ys.map WAt.l) ++ [y.l]).flatMap LAt.cells)) (hg : W1.grownBy W2 lv.ownBlock) (hv : lv'.ownBlock = lv.ownBlock ∨ lv'.ownBlock = some W1.heap.size) : Mem B (W2.setCell ⟨Y, 2, none⟩ lv') (openR Y kind name lv' vr bv (ys ++ [y]) L gs) ∧ (W2.heap[Y]? = some (.cells #[.string kind, .string name, lv] 46 (0, 0))) := by
  have h1 := Mem.below h hb
  have e1 : (y.r :: openR Y kind name lv vr bv ys L gs).Perm (⟨lv, 115, 2, ys.length, (ys.map WAt.l).flatMap LAt.cells⟩ :: (boxR Y kind name lv :: (rrows vr L ++ (ys.map WAt.r ++ [y.r] ++ grows bv gs)))) := by
    unfold openR wrows
    simp only [List.cons_append]
    refine List.Perm.trans ?_ (List.Perm.swap _ _ _)
    refine (List.Perm.swap _ _ _).trans (List.Perm.cons _ ?_)
    refine (List.Perm.cons _ List.perm_middle).trans ?_
    refine (List.Perm.swap _ _ _).trans (List.Perm.cons _ ?_)
    rw [List.append_assoc]
    exact (List.perm_middle (a := y.r) (l₁ := rrows vr L)).symm.trans (List.Perm.append_left _ (List.perm_middle (a := y.r) (l₁ := ys.map WAt.r)).symm)
  have h2 := Mem.perm h1 e1
  have h3 := Mem.grow (r' := ⟨lv', 115, 2, ys.length + 1, ((ys.map WAt.l) ++ [y.l]).flatMap LAt.cells⟩) h2 ho hg hv
  have hbx := box_heap (h3.1 (boxR Y kind name lv) (by simp))
  refine ⟨?_, hbx⟩
  have hYB := (Mem.lt h3 (r := boxR Y kind name lv) (by simp) (g := Y) rfl).1
  have gY := grown_setCell' W2 Y 2 lv'
  have hb4 : (W2.setCell ⟨Y, 2, none⟩ lv').heap[Y]? = some (.cells #[.string kind, .string name, lv'] 46 (0, 0)) := by rw [heap_setCell_same W2 Y 2 _ _ _ hbx]; rfl
  have h4 := Mem.midTurn (A := [⟨lv', 115, 2, ys.length + 1, ((ys.map WAt.l) ++ [y.l]).flatMap LAt.cells⟩]) (r := boxR Y kind name lv) (r' := boxR Y kind name lv') h3 rfl (box_isAt hb4 hYB) gY
  refine Mem.perm h4 ?_
  unfold openR wrows
  simp only [List.cons_append, List.nil_append, List.map_append, List.map_cons, List.map_nil, List.length_append, List.length_cons, List.length_nil]
  refine (List.Perm.swap _ _ _).trans (List.Perm.cons _ ?_)
  rw [Nat.zero_add]
  exact List.perm_middle.symm
theorem open_shut {B Y : Nat} {kind name : ByteArray} {lv vr bv bv' : Value} {ys : List WAt} {L : List RAt} {gs : List GAt} {W W2 : World} (h : Mem B W (openR Y kind name lv vr bv ys L gs)) (ho : W2.ownsRow B 46 3 bv' (gs.length + 1) (((gs.map GAt.b) ++ [(⟨kind, name, lv, ys⟩ : GAt).b]).flatMap BAt.cells)) (hg : W.grownBy W2 bv.ownBlock) (hv : bv'.ownBlock = bv.ownBlock ∨ bv'.ownBlock = some W.heap.size) : Mem B W2 (grows bv' (gs ++ [⟨kind, name, lv, ys⟩])) := by
  have h1 : Mem B W (wrows lv ys ++ grows bv gs) := Mem.right (Mem.tail h)
  unfold grows at h1
  have h2 := Mem.perm h1 (List.perm_middle (a := (⟨bv, 46, 3, gs.length, (gs.map GAt.b).flatMap BAt.cells⟩ : MRow)))
  have h3 := Mem.grow (r' := ⟨bv', 46, 3, gs.length + 1, ((gs.map GAt.b) ++ [(⟨kind, name, lv, ys⟩ : GAt).b]).flatMap BAt.cells⟩) h2 ho hg hv
  refine Mem.perm h3 ?_
  unfold grows
  simp only [List.map_append, List.map_cons, List.map_nil, List.length_append, List.length_cons, List.length_nil, List.flatMap_append, List.flatMap_cons, List.flatMap_nil, List.append_nil]
  exact List.Perm.cons _ List.perm_append_comm
theorem grown_in {w W W' : World} {R : Nat} {o : Option Nat} (h : w.grownBy W (some R)) (hg : W.grownBy W' o) (ho : ∀ g, o = some g → w.heap.size ≤ g) : w.grownBy W' (some R) := ⟨hg.os.trans h.os, hg.tape.trans h.tape, hg.output.trans h.output, Nat.le_trans h.size hg.size, fun i hi hne => by
  rw [hg.block i (Nat.lt_of_lt_of_le hi h.size) (fun e => by have := ho i e.symm; omega)]
  exact h.block i hi hne⟩
theorem RdBox.other {R m : Nat} {rest : ByteArray} {W W' : World} {o : Option Nat} (h : RdBox R rest m W) (hg : W.grownBy W' o) (ho : o ≠ some R) : RdBox R rest m W' := (hg.block R (Array.getElem?_eq_some_iff.1 h).1 (fun e => ho e.symm)).trans h
theorem own_ge {R : Nat} {w : World} {N : Nat} {L : List MRow} {rest : ByteArray} {m : Nat} {W : World} (h : RdS R w N L rest m W) {r : MRow} (hr : r ∈ L) : ∀ g, r.v.ownBlock = some g → w.heap.size ≤ g := fun _ hg => (Mem.lt h.mem hr hg).1
theorem RdS.Yge {R Y : Nat} {w : World} {N : Nat} {kind name : ByteArray} {lv vr bv : Value} {ys : List WAt} {L : List RAt} {gs : List GAt} {rest : ByteArray} {m : Nat} {W : World} (h : RdS R w N (openR Y kind name lv vr bv ys L gs) rest m W) : w.heap.size ≤ Y := own_ge h (List.mem_cons_self ..) Y rfl
theorem RdS.added {R Y : Nat} {w : World} {N : Nat} {kind name : ByteArray} {lv lv' vr bv : Value} {ys : List WAt} {y : WAt} {L : List RAt} {gs : List GAt} {rest : ByteArray} {m : Nat} {W W1 W2 : World} (h : RdS R w N (y.r :: openR Y kind name lv vr bv ys L gs) rest m W) (hb : Below W.heap.size W W1) (ho : W2.ownsRow w.heap.size 115 2 lv' (ys.length + 1) (((ys.map WAt.l) ++ [y.l]).flatMap LAt.cells)) (hg : W1.grownBy W2 lv.ownBlock) (hv : lv'.ownBlock = lv.ownBlock ∨ lv'.ownBlock = some W1.heap.size) : RdS R w N (openR Y kind name lv' vr bv (ys ++ [y]) L gs) rest m (W2.setCell ⟨Y, 2, none⟩ lv') ∧ W2.heap[Y]? = some (.cells #[.string kind, .string name, lv] 46 (0, 0)) := by
  obtain ⟨h1, h2⟩ := open_add h.mem hb ho hg hv
  have hY := (h.rows (Mem.tail h.mem)).Yge
  have hlt := h.lt
  have hl : ∀ g, lv.ownBlock = some g → w.heap.size ≤ g := own_ge h (r := ⟨lv, 115, 2, ys.length, (ys.map WAt.l).flatMap LAt.cells⟩) (by unfold openR wrows; simp)
  have gY := grown_setCell' W2 Y 2 lv'
  have b2 : RdBox R rest m W2 := (h.box.below hb).other hg (fun e => by have := hl R e; omega)
  exact ⟨⟨h1, b2.other gY (fun e => by have := Option.some.inj e; omega), grown_in (grown_in (grown_trans h.gr (grown_of_below hb _)) hg hl) gY (fun g e => by cases e; exact hY), h.lt, h.sz, h.n, h.big⟩, h2⟩
theorem RdS.shut {R Y : Nat} {w : World} {N : Nat} {kind name : ByteArray} {lv vr bv bv' : Value} {ys : List WAt} {L : List RAt} {gs : List GAt} {rest : ByteArray} {m : Nat} {W W2 : World} (h : RdS R w N (openR Y kind name lv vr bv ys L gs) rest m W) (ho : W2.ownsRow w.heap.size 46 3 bv' (gs.length + 1) (((gs.map GAt.b) ++ [(⟨kind, name, lv, ys⟩ : GAt).b]).flatMap BAt.cells)) (hg : W.grownBy W2 bv.ownBlock) (hv : bv'.ownBlock = bv.ownBlock ∨ bv'.ownBlock = some W.heap.size) : RdS R w N (grows bv' (gs ++ [⟨kind, name, lv, ys⟩])) rest m W2 := by
  have hlt := h.lt
  have hl : ∀ g, bv.ownBlock = some g → w.heap.size ≤ g := own_ge h (r := ⟨bv, 46, 3, gs.length, (gs.map GAt.b).flatMap BAt.cells⟩) (by unfold openR grows; simp)
  exact ⟨open_shut h.mem ho hg hv, h.box.other hg (fun e => by have := hl R e; omega), grown_in h.gr hg hl, h.lt, h.sz, h.n, h.big⟩
theorem plainL_snoc (ys : List WAt) (y : WAt) : plainL (ys ++ [y]) = plainL ys ++ [⟨keyOf y.x, y.xs⟩] := by
  unfold plainL; rw [List.map_append, List.map_append]; rfl
theorem plainG_snoc (gs : List GAt) (b : GAt) : plainG (gs ++ [b]) = plainG gs ++ [⟨b.kind, b.name, plainL b.ys⟩] := by
  unfold plainG; rw [List.map_append, List.map_append]; rfl
def BlocksPost (R : Nat) (RES : PRes) (w : World) (e : Ending) (w' : World) : Prop := w.grownBy w' (some R) ∧ match RES with
  | .good bs => ∃ a n c gs, e = .returned (.tuple #[.slice a n c, .nilIface]) ∧ plainG gs = bs ∧ Mem w.heap.size w' (grows (.slice a n c) gs) ∧ (∀ b ∈ gs, b.sm) ∧ gs.length ≤ 1000000
  | .bad m c => e = .returned (.tuple #[.slice none 0 0, flt m c])
def OutR (R : Nat) (w : World) (N : Nat) (RES : PRes) (v : Value) (W : World) : Prop := ∃ gs rest m, RdS R w N (grows v gs) rest m W ∧ parseGo m (plainG gs) none (textLines rest.data.toList) = RES ∧ gs.length ≤ m ∧ ∀ b ∈ gs, b.sm
def InR (R : Nat) (w : World) (N : Nat) (RES : PRes) (Y m0 : Nat) (kind name : ByteArray) (bv vr : Value) (gs : List GAt) (L : List RAt) (W : World) : Prop := ∃ ys lv rest m, RdS R w N (openR Y kind name lv vr bv ys L gs) rest m W ∧ parseGo m (plainG gs) (some ⟨kind, name, plainL ys⟩) (textLines rest.data.toList) = RES ∧ (m0 ≤ m ∧ ys.length ≤ m) ∧ ∀ y ∈ ys, y.sm
set_option maxHeartbeats 8000000 in
set_option maxRecDepth 100000 in
theorem blocks_any {R : Nat} {rest : ByteArray} {w : World} (h : RdBox R rest 0 w) (hs : rest.size ≤ 1048576) (hn : (textLines rest.data.toList).length ≤ 1000000) (hst : ∀ W, w.grownBy W (some R) → StdAt W) : Calls Tryz.prog 140 #[.pointer (some ⟨R, 0, none⟩)] w fun e w' => BlocksPost R (parseGo 0 [] none (textLines rest.data.toList)) w e w' := by
  have hR : R < w.heap.size := (Array.getElem?_eq_some_iff.1 h).1
  obtain ⟨RES, hRES⟩ : ∃ RES, parseGo 0 [] none (textLines rest.data.toList) = RES := ⟨_, rfl⟩
  obtain ⟨N, hN⟩ : ∃ N, (textLines rest.data.toList).length = N := ⟨_, rfl⟩
  have HI := hid_in (show OutR R w N RES (.slice none 0 0) w from ⟨[], rest, 0, ⟨⟨by simp only [grows, List.flatMap_nil, List.mem_singleton]; rintro r rfl; exact own_nil rfl rfl, by simp [grows]⟩, h, grown_of_below (Below.refl w.heap.size w) _, hR, hs, by omega, by omega⟩, hRES, by simp, by simp⟩)
  rw [hRES]
  have HST := hid_in hst
  clear h hs hRES hst
  go_enter Tryz.func140, Tryz.ntmps140
  go_wp2
  go_step3
  go_wp2
  go_step3
  go_wp2
  go_loopw [4] (fun v wr => OutR R w N RES v wr) (fun _ wr => rdLines R wr)
  case atStart => exact HI.out
  case round =>
    clear HI
    obtain ⟨gs, rs, m, HS, hP, hgm, hgs⟩ := hrel
    obtain ⟨va, vc, rfl⟩ := grows_form HS.mem
    have hW := words_any HS.box HS.sz (by rw [HS.n]; exact HS.big)
    have HSH := hid_in HS
    rw [parseGo_next] at hP
    clear HS
    go_wp2_with (go_at_call 186; refine hW.mono ?_)
    rintro e w2 ⟨hg2, hpost⟩
    clear hW
    cases hx : nextW m (textLines rs.data.toList) with
    | ended m2 =>
      rw [hx] at hpost hP
      obtain ⟨rfl, hb2⟩ := hpost
      have hz := HSH.out.gr
      have hm1 := Mem.other HSH.out.mem hg2 HSH.out.lt
      have HO := hid_in (show BlocksPost R RES w (.returned (.tuple #[.slice va gs.length vc, .nilIface])) w2 from ⟨grown_trans HSH.out.gr hg2, by rw [← hP]; exact ⟨va, gs.length, vc, gs, rfl, rfl, hm1, hgs, by have := HSH.out.big; have := HSH.out.n; omega⟩⟩)
      clear HSH hm1 hP hg2 hb2 hz
      generalize gs.length = ng at *
      go_wp2
      rw [Exit.noGoto_ret]
      go_ret2
      exact HO.out
    | bad m2 =>
      rw [hx] at hpost hP
      obtain rfl := hpost
      have HO := hid_in (show BlocksPost R RES w (.returned (.tuple #[.slice none 0 0, flt m2 1])) w2 from ⟨grown_trans HSH.out.gr hg2, by rw [← hP]; rfl⟩)
      clear HSH hP hg2
      unfold flt at *
      generalize gs.length = ng at *
      go_wp2
      rw [Exit.noGoto_ret]
      go_ret2
      exact HO.out
    | words m2 x xs rst =>
      rw [hx] at hpost hP
      obtain ⟨a, c, r, rfl, hr, hz, hb, ho⟩ := hpost
      obtain ⟨g, rfl⟩ := row_form ho
      have hsm := nextW_small _ _ _ _ _ _ hx
      have hln := nextW_len _ _ _ _ _ _ hx
      have HS2 := HSH.out.read hx hg2 hr hz hb ho
      have hng : gs.length ≤ 1000000 := by have := HSH.out.n; have := HSH.out.big; omega
      have hrl := HSH.out.n
      have HRL := hid_in HSH.out.box.lines
      have HB := begin_any HS2.box (grows_in (Mem.tail HS2.mem)) (by rw [List.length_map]; omega) (own_has (Mem.head HS2.mem)) hsm.2 hsm.1
      have HS2H := hid_in HS2
      have HPH := hid_in (show (if (stepW (plainG gs) none x xs).1 ≠ 0 then PRes.bad m2 (stepW (plainG gs) none x xs).1 else parseGo m2 (stepW (plainG gs) none x xs).2.1 (stepW (plainG gs) none x xs).2.2 rst) = RES from hP)
      have HGS := hid_in hgs
      have HSM := hid_in hsm
      have HRR := hid_in hr
      clear HSH hP hg2 ho hb HS2 hx hgs hsm hr
      have hxl : ((xs.length : Int) + 1 == 0) = false := by rw [beq_eq_false_iff_ne]; omega
      generalize hnx : xs.length = nx at *
      generalize hngs : gs.length = ng at *
      have ENG := hid_in hngs
      have ENX := hid_in hnx
      clear hngs hnx
      go_wp2_with (go_at_call 187; refine HB.mono ?_)
      rintro e w3 ⟨b3, hbp⟩
      rw [show (gs.map GAt.b).map BAt.plain = plainG gs from rfl] at hbp
      clear HB
      rcases hbp with ⟨hc, rfl⟩ | ⟨hc, nm, hxs, rfl⟩
      · have hRES := HPH.out
        rw [if_pos hc] at hRES
        generalize (stepW (plainG gs) none x xs).1 = cd at *
        have bx := (Below.refl w3.heap.size w3).alloc (Nat.le_refl _) (.cells #[.string ⟨#[]⟩, .string ⟨#[]⟩, .slice none 0 0] 46)
        have HO := hid_in (show BlocksPost R RES w (.returned (.tuple #[.slice none 0 0, flt m2 cd])) (w3.alloc (.cells #[.string ⟨#[]⟩, .string ⟨#[]⟩, .slice none 0 0] 46)) from ⟨grown_trans HS2H.out.gr (grown_trans (grown_of_below b3 _) (grown_of_below bx _)), by rw [← hRES]⟩)
        clear HPH HS2H hRES hc b3 bx
        unfold flt at *
        go_wp2
        rw [Exit.noGoto_ret]
        go_ret2
        exact HO.out
      · subst hxs
        have hRES := HPH.out
        rw [if_neg (by rw [hc]; simp), stepW_head] at hRES
        have hnz := ENX.out
        obtain rfl : nx = 1 := by rw [← hnz]; rfl
        have HS3 := HS2H.out.below b3
        have bx := (Below.refl w3.heap.size w3).alloc (Nat.le_refl _) (.cells #[.string (keyOf x), .string (keyOf nm), .slice none 0 0] 46)
        have xb := alloc_here w3 (.cells #[.string (keyOf x), .string (keyOf nm), .slice none 0 0] 46)
        have HR := implRules_any (keyOf x) (w3.alloc (.cells #[.string (keyOf x), .string (keyOf nm), .slice none 0 0] 46))
        have HRESH := hid_in hRES
        have HS3H := hid_in HS3
        have HNM := hid_in (show (keyOf nm).size ≤ 200 from by have := HSM.out.2 nm (by simp); show nm.toArray.size ≤ 200; rw [List.size_toArray]; exact this)
        clear HPH HS2H hRES hc hnz ENX HS3 b3 HSM
        generalize hkx : keyOf x = kx at *
        generalize hkn : keyOf nm = kn at *
        clear hkx hkn
        have k0 := cell_of_block xb 0
        simp only [List.getElem?_toArray, List.getElem?_cons_zero] at k0
        go_wp2_with (go_at_call 29; refine HR.mono ?_)
        rintro e w5 ⟨vr, L, rfl, hLR, hRA, b5⟩
        obtain ⟨ra, rc, rfl, _⟩ : ∃ ra rc, vr = .slice ra L.length rc ∧ True := by
          obtain ⟨ra, rc, e, _⟩ := own_form (Mem.head hRA)
          exact ⟨ra, rc, e, trivial⟩
        generalize hnl : L.length = nl at *
        have hB3 : w.heap.size ≤ w3.heap.size := HS3H.out.gr.size
        have hOP := open_start (Mem.tail HS3H.out.mem) hB3 bx xb (Nat.le_refl _) hRA b5
        have HI := hid_in (show InR R w N RES w3.heap.size m2 kx kn (.slice va ng vc) (.slice ra nl rc) gs L w5 from ⟨[], .slice none 0 0, r, m2, (HS3H.out.below (bx.trans (b5.mono bx.size))).rows hOP, by rw [HRR.out]; exact HRESH.out, ⟨Nat.le_refl _, by simp⟩, by simp⟩)
        have HLR := hid_in hLR
        clear HR hRA hLR hOP b5 bx xb k0 HS3H HRESH HRR
        generalize hY : w3.heap.size = Y at *
        obtain ⟨wo, hwo⟩ : ∃ wo, wo = wr := ⟨_, rfl⟩
        subst hwo
        go_wp2
        go_loopw [4] (fun v wi => v = .slice va ng vc ∧ InR R w N RES Y m2 kx kn (.slice va ng vc) (.slice ra nl rc) gs L wi) (fun _ wi => rdLines R wi)
        case atStart => exact ⟨rfl, HI.out⟩
        case round =>
          clear HI
          obtain ⟨rfl, ys, lv, r4, m4, HS, hP, ⟨hm24, hym⟩, hys⟩ := hrel
          obtain ⟨la, lc, rfl⟩ := wrows_form (open_lines HS.mem)
          have hW := words_any HS.box HS.sz (by rw [HS.n]; exact HS.big)
          have HSH := hid_in HS
          rw [parseGo_next] at hP
          clear HS
          go_wp2_with (go_at_call 186; refine hW.mono ?_)
          rintro e w6 ⟨hg6, hpost⟩
          clear hW
          cases hx5 : nextW m4 (textLines r4.data.toList) with
          | ended m5 =>
            rw [hx5] at hpost hP
            obtain ⟨rfl, hb6⟩ := hpost
            have hm6 := Mem.other HSH.out.mem hg6 HSH.out.lt
            have q2 := cell_of_block (open_box hm6) 2
            have f2 := frozen_of_block (open_box hm6) 2
            simp only [List.getElem?_toArray, List.getElem?_cons_zero, List.getElem?_cons_succ] at q2
            have HA := add_open (vr := .slice ra nl rc) (ev := .slice la ys.length lc) hb6
            have hYg := HSH.out.Yge
            have HO := hid_in (show BlocksPost R RES w (.returned (.tuple #[.slice none 0 0, flt m5 8])) (w6.setCell ⟨Y, 2, none⟩ (.slice none 0 0)) from ⟨grown_in (grown_trans HSH.out.gr hg6) (grown_setCell' w6 Y 2 _) (fun g e => by cases e; exact hYg), by rw [← hP]; rfl⟩)
            clear HSH hP hg6 hb6 hm6
            unfold flt at *
            generalize ys.length = ny at *
            go_wp2_with (go_at_call 188; refine HA.mono ?_; rintro e w7 ⟨rfl, rfl⟩)
            rw [Exit.noGoto_ret]
            go_ret2
            exact HO.out
          | bad m5 =>
            rw [hx5] at hpost hP
            obtain rfl := hpost
            have HO := hid_in (show BlocksPost R RES w (.returned (.tuple #[.slice none 0 0, flt m5 1])) w6 from ⟨grown_trans HSH.out.gr hg6, by rw [← hP]; rfl⟩)
            clear HSH hP hg6
            unfold flt at *
            generalize ys.length = ny at *
            go_wp2
            rw [Exit.noGoto_ret]
            go_ret2
            exact HO.out
          | words m5 x5 xs5 rst5 =>
            rw [hx5] at hpost hP
            obtain ⟨a5, c5, r6, rfl, hr5, hz5, hb5, ho5⟩ := hpost
            obtain ⟨g5, rfl⟩ := row_form ho5
            have hsm5 := nextW_small _ _ _ _ _ _ hx5
            have hln5 := nextW_len _ _ _ _ _ _ hx5
            have HS6 := HSH.out.read hx5 hg6 hr5 hz5 hb5 ho5
            have hrl5 := HSH.out.n
            have HRW := hid_in HSH.out.box.lines
            have HR6 := hid_in hr5
            obtain ⟨gw, ow, ew, hw0⟩ := (own_has (Mem.head HS6.mem)).word 0 (by simp)
            cases ew
            simp only [List.getElem_cons_zero, Nat.add_zero] at hw0
            clear HSH hg6 ho5 hb5 hx5 hr5
            by_cases hend : x5 = [101, 110, 100] ∧ xs5 = []
            · obtain ⟨rfl, rfl⟩ := hend
              have hPS : parseGo m5 (plainG gs ++ [⟨kx, kn, plainL ys⟩]) none rst5 = RES := by
                have h1 : (if (stepW (plainG gs) (some ⟨kx, kn, plainL ys⟩) [101, 110, 100] []).1 ≠ 0 then PRes.bad m5 (stepW (plainG gs) (some ⟨kx, kn, plainL ys⟩) [101, 110, 100] []).1 else parseGo m5 (stepW (plainG gs) (some ⟨kx, kn, plainL ys⟩) [101, 110, 100] []).2.1 (stepW (plainG gs) (some ⟨kx, kn, plainL ys⟩) [101, 110, 100] []).2.2 rst5) = RES := hP
                rw [stepW_end] at h1
                simpa using h1
              have HS7 := HS6.rows (Mem.tail HS6.mem)
              have hbx := open_box HS7.mem
              have q0 := cell_of_block hbx 0
              have q1 := cell_of_block hbx 1
              have q2 := cell_of_block hbx 2
              simp only [List.getElem?_toArray, List.getElem?_cons_zero, List.getElem?_cons_succ] at q0 q1 q2
              obtain ⟨i0, hi, hz0, hz1, hz2⟩ := info_parts infoBlock
              have b8 := (Below.refl w6.heap.size w6).alloc (Nat.le_refl _) (.cells #[.string kx, .string kn, .slice la ys.length lc] 46)
              have HS8 := HS7.below b8
              have hm3 : (w6.alloc (.cells #[.string kx, .string kn, .slice la ys.length lc] 46)).ownsRow w.heap.size 46 3 (.slice va ng vc) ng ((gs.map GAt.b).flatMap BAt.cells) := by
                have := Mem.head (open_done HS8.mem)
                rw [ENG.out] at this
                exact this
              have hrow := lit_has w6 #[.string kx, .string kn, .slice la ys.length lc] 46 3 rfl
              have hone : ∀ y ∈ [Value.string kx, Value.string kn, Value.slice la ys.length lc], y.oneCell' = true := by
                intro y hy
                simp only [List.mem_cons, List.not_mem_nil, or_false] at hy
                rcases hy with rfl | rfl | rfl <;> rfl
              have hsz8 : w.heap.size ≤ (w6.alloc (.cells #[.string kx, .string kn, .slice la ys.length lc] 46)).heap.size := HS8.gr.size
              have hgm5 : ng ≤ m5 := by omega
              have HS8H := hid_in HS8
              have HYS := hid_in (show (⟨kx, kn, .slice la ys.length lc, ys⟩ : GAt).sm from ⟨HNM.out, by have := HS8.n; have := HS8.big; simp only; omega, hys⟩)
              have HPS := hid_in hPS
              clear HS6 HS7 HS8 hPS hP hys hbx b8
              generalize hny : ys.length = ny at *
              clear hny
              simp only [List.length_nil, Nat.zero_add] at *
              go_wp2_with (at_builtin; refine wpList_append_has (by rfl) _ _ 23 (by rfl) w.heap.size 46 i0 _ 3 56 Tryz.underlying23 hi hz0 hz1 hz2 rfl (by decide) _ ng _ (by rfl) hm3 _ 1 _ (by rfl) hrow hone ?c3 ?c4 hsz8 ?_)
              case c3 => unfold maxLen; omega
              case c4 => omega
              intro ao' cap' w9 hown9 hg9 hv9
              have HS9 := HS8H.out.shut (bv' := .slice ao' (ng + 1) cap') (by rw [ENG.out, List.flatMap_append, List.flatMap_singleton]; exact hown9) hg9 (by first | exact hv9 | (rw [World.size_alloc]; exact hv9))
              have hms : rdLines R w9 < rdLines R wo := by rw [HS9.box.lines, HRL.out, HR6.out]; omega
              have HI := hid_in (show OutR R w N RES (.slice ao' (ng + 1) cap') w9 from ⟨gs ++ [⟨kx, kn, .slice la ny lc, ys⟩], r6, m5, HS9, by rw [plainG_snoc, HR6.out]; exact HPS.out, by rw [List.length_append, ENG.out]; simp only [List.length_cons, List.length_nil]; omega, fun b hb => by
                rcases List.mem_append.1 hb with hb | hb
                · exact HGS.out b hb
                · rw [List.mem_singleton.1 hb]; exact HYS.out⟩)
              have HMS := hid_in hms
              clear hm3 hrow hone hown9 hg9 hv9 HS9 hms HS8H q0 q1 q2
              go_wp2
              go_roundw
              case rel => exact HI.out
              case measure => exact HMS.out
            · have hPS : (if lineFault (rulesOf kx) (plainL ys) ⟨keyOf x5, xs5⟩ ≠ 0 then PRes.bad m5 (lineFault (rulesOf kx) (plainL ys) ⟨keyOf x5, xs5⟩) else parseGo m5 (plainG gs) (some ⟨kx, kn, plainL ys ++ [⟨keyOf x5, xs5⟩]⟩) rst5) = RES := by
                have h1 : (if (stepW (plainG gs) (some ⟨kx, kn, plainL ys⟩) x5 xs5).1 ≠ 0 then PRes.bad m5 (stepW (plainG gs) (some ⟨kx, kn, plainL ys⟩) x5 xs5).1 else parseGo m5 (stepW (plainG gs) (some ⟨kx, kn, plainL ys⟩) x5 xs5).2.1 (stepW (plainG gs) (some ⟨kx, kn, plainL ys⟩) x5 xs5).2.2 rst5) = RES := hP
                rw [stepW_in hend] at h1
                exact h1
              clear hP
              by_cases hx0 : xs5.length = 0
              · have hxe : (x5 == [101, 110, 100]) = false := by
                  rw [beq_eq_false_iff_ne]
                  intro e
                  exact hend ⟨e, List.length_eq_zero_iff.1 hx0⟩
                obtain rfl := List.length_eq_zero_iff.1 hx0
                clear hx0 hend
                have HA : Calls Tryz.prog 188 #[.pointer (some ⟨R, 0, none⟩), .slice ra nl rc, .slice la ys.length lc, .slice (some ⟨g5, 0, none⟩) (([] : List (List UInt8)).length + 1) c5] w6 fun e w' => AddPost (rulesOf kx) w.heap.size (.slice la ys.length lc) (ys.map WAt.l) m5 x5 ([] : List (List UInt8)) (WAt.ta ⟨g5, c5, x5, ([] : List (List UInt8))⟩) c5 w6 e w' := by
                  have := add_any (R := R) (B := w.heap.size) (m := m5) (g := g5) (wc := c5) (x := x5) (xs := ([] : List (List UInt8))) (ta := WAt.ta ⟨g5, c5, x5, ([] : List (List UInt8))⟩) (es := ys.map WAt.l) (ea := la) (ec := lc) HS6.box (open_rules (Mem.tail HS6.mem)) (by rw [HLR.out]; exact rulesOf_like _) (by rw [List.length_map]; exact Mem.head (open_lines (Mem.tail HS6.mem))) HS6.gr.size (fun z hz => by obtain ⟨y, hy, rfl⟩ := List.mem_map.1 hz; exact wat_in ((open_lines (Mem.tail HS6.mem)).1 y.r (List.mem_cons_of_mem _ (List.mem_map_of_mem hy)))) (by rw [List.length_map]; have := HS6.n; have := HS6.big; omega) (fun z hz => by obtain ⟨y, hy, rfl⟩ := List.mem_map.1 hz; exact Nat.le_trans (hys y hy).1 (by decide)) (own_has (Mem.head HS6.mem)) hsm5.2 hsm5.1 rfl (HST.out _ HS6.gr)
                  rw [HLR.out, List.length_map] at this
                  exact this
                have q2 := cell_of_block (open_box (Mem.tail HS6.mem)) 2
                simp only [List.getElem?_toArray, List.getElem?_cons_zero, List.getElem?_cons_succ] at q2
                have HS6H := hid_in HS6
                have HYS := hid_in hys
                have HSM := hid_in (show (⟨g5, c5, x5, ([] : List (List UInt8))⟩ : WAt).sm from hsm5)
                have HPS := hid_in hPS
                clear HS6 hys hsm5 hPS
                generalize hny : ys.length = ny at *
                simp only [List.length_nil, Nat.zero_add] at HA ⊢
                have ENY := hid_in hny
                clear hny
                go_wp2_with (go_at_call 188; refine HA.mono ?_)
                rintro e w7 hadd
                clear HA
                unfold AddPost at hadd
                rw [show (ys.map WAt.l).map LAt.plain = plainL ys from rfl] at hadd
                rcases hadd with ⟨hc, rfl, b7⟩ | ⟨hc, a7, c7, rfl, ho7, W1, b1, hg7, hv7⟩
                · have hRES := HPS.out
                  have hb7 := (b7.block Y (Array.getElem?_eq_some_iff.1 (open_box (Mem.tail HS6H.out.mem))).1).trans (open_box (Mem.tail HS6H.out.mem))
                  have q7 := cell_of_block hb7 2
                  have f7 := frozen_of_block hb7 2
                  simp only [List.getElem?_toArray, List.getElem?_cons_zero, List.getElem?_cons_succ] at q7
                  rw [if_pos hc] at hRES
                  have hYg := (HS6H.out.rows (Mem.tail HS6H.out.mem)).Yge
                  generalize lineFault (rulesOf kx) (plainL ys) ⟨keyOf x5, ([] : List (List UInt8))⟩ = cd at *
                  have HO := hid_in (show BlocksPost R RES w (.returned (.tuple #[.slice none 0 0, flt m5 cd])) (w7.setCell ⟨Y, 2, none⟩ (.slice none 0 0)) from ⟨grown_in (grown_trans HS6H.out.gr (grown_of_below b7 _)) (grown_setCell' w7 Y 2 _) (fun g e => by cases e; exact hYg), by rw [← hRES]⟩)
                  clear HPS HS6H hRES hc b7 hb7 q2
                  unfold flt at *
                  go_wp2
                  rw [Exit.noGoto_ret]
                  go_ret2
                  exact HO.out
                · have hRES := HPS.out
                  rw [if_neg (by rw [hc]; simp)] at hRES
                  rw [List.length_map, ENY.out] at ho7
                  obtain ⟨hS8, hb7⟩ := HS6H.out.added (lv' := .slice a7 (ny + 1) c7) b1 (by rw [ENY.out]; exact ho7) hg7 (by rw [List.length_map, ENY.out] at hv7; exact hv7)
                  have q7 := cell_of_block hb7 2
                  have f7 := frozen_of_block hb7 2
                  simp only [List.getElem?_toArray, List.getElem?_cons_zero, List.getElem?_cons_succ] at q7
                  have hHS := hS8.box.lines
                  have HI := hid_in (show InR R w N RES Y m2 kx kn (.slice va ng vc) (.slice ra nl rc) gs L (w7.setCell ⟨Y, 2, none⟩ (.slice a7 (ny + 1) c7)) from ⟨ys ++ [⟨g5, c5, x5, ([] : List (List UInt8))⟩], .slice a7 (ny + 1) c7, r6, m5, hS8, by rw [HR6.out]; rw [plainL_snoc]; exact hRES, ⟨by omega, by simp; have := ENY.out; omega⟩, fun y hy => by
                    rcases List.mem_append.1 hy with hy | hy
                    · exact HYS.out y hy
                    · rw [List.mem_singleton.1 hy]; exact HSM.out⟩)
                  have hms : rdLines R (w7.setCell ⟨Y, 2, none⟩ (.slice a7 (ny + 1) c7)) < rdLines R wr := by rw [hHS, HRW.out, HR6.out]; omega
                  have HMS := hid_in hms
                  clear HPS HS6H hRES hc hS8 hb7 ho7 hg7 hv7 b1 q2 hHS hms
                  rw [List.length_map, ENY.out]
                  go_wp2
                  go_roundw
                  case rel => exact ⟨rfl, HI.out⟩
                  case measure => exact HMS.out
              · have hxe : (((xs5.length : Int) + 1) == 1) = false := by rw [beq_eq_false_iff_ne]; omega
                have HA : Calls Tryz.prog 188 #[.pointer (some ⟨R, 0, none⟩), .slice ra nl rc, .slice la ys.length lc, .slice (some ⟨g5, 0, none⟩) (xs5.length + 1) c5] w6 fun e w' => AddPost (rulesOf kx) w.heap.size (.slice la ys.length lc) (ys.map WAt.l) m5 x5 xs5 (WAt.ta ⟨g5, c5, x5, xs5⟩) c5 w6 e w' := by
                  have := add_any (R := R) (B := w.heap.size) (m := m5) (g := g5) (wc := c5) (x := x5) (xs := xs5) (ta := WAt.ta ⟨g5, c5, x5, xs5⟩) (es := ys.map WAt.l) (ea := la) (ec := lc) HS6.box (open_rules (Mem.tail HS6.mem)) (by rw [HLR.out]; exact rulesOf_like _) (by rw [List.length_map]; exact Mem.head (open_lines (Mem.tail HS6.mem))) HS6.gr.size (fun z hz => by obtain ⟨y, hy, rfl⟩ := List.mem_map.1 hz; exact wat_in ((open_lines (Mem.tail HS6.mem)).1 y.r (List.mem_cons_of_mem _ (List.mem_map_of_mem hy)))) (by rw [List.length_map]; have := HS6.n; have := HS6.big; omega) (fun z hz => by obtain ⟨y, hy, rfl⟩ := List.mem_map.1 hz; exact Nat.le_trans (hys y hy).1 (by decide)) (own_has (Mem.head HS6.mem)) hsm5.2 hsm5.1 rfl (HST.out _ HS6.gr)
                  rw [HLR.out, List.length_map] at this
                  exact this
                have q2 := cell_of_block (open_box (Mem.tail HS6.mem)) 2
                simp only [List.getElem?_toArray, List.getElem?_cons_zero, List.getElem?_cons_succ] at q2
                have HS6H := hid_in HS6
                have HYS := hid_in hys
                have HSM := hid_in (show (⟨g5, c5, x5, xs5⟩ : WAt).sm from hsm5)
                have HPS := hid_in hPS
                clear HS6 hys hsm5 hPS
                generalize hny : ys.length = ny at *
                generalize hnx : xs5.length = nx at *
                have ENY := hid_in hny
                clear hny
                go_wp2_with (go_at_call 188; refine HA.mono ?_)
                rintro e w7 hadd
                clear HA
                unfold AddPost at hadd
                rw [show (ys.map WAt.l).map LAt.plain = plainL ys from rfl] at hadd
                rcases hadd with ⟨hc, rfl, b7⟩ | ⟨hc, a7, c7, rfl, ho7, W1, b1, hg7, hv7⟩
                · have hRES := HPS.out
                  have hb7 := (b7.block Y (Array.getElem?_eq_some_iff.1 (open_box (Mem.tail HS6H.out.mem))).1).trans (open_box (Mem.tail HS6H.out.mem))
                  have q7 := cell_of_block hb7 2
                  have f7 := frozen_of_block hb7 2
                  simp only [List.getElem?_toArray, List.getElem?_cons_zero, List.getElem?_cons_succ] at q7
                  rw [if_pos hc] at hRES
                  have hYg := (HS6H.out.rows (Mem.tail HS6H.out.mem)).Yge
                  generalize lineFault (rulesOf kx) (plainL ys) ⟨keyOf x5, xs5⟩ = cd at *
                  have HO := hid_in (show BlocksPost R RES w (.returned (.tuple #[.slice none 0 0, flt m5 cd])) (w7.setCell ⟨Y, 2, none⟩ (.slice none 0 0)) from ⟨grown_in (grown_trans HS6H.out.gr (grown_of_below b7 _)) (grown_setCell' w7 Y 2 _) (fun g e => by cases e; exact hYg), by rw [← hRES]⟩)
                  clear HPS HS6H hRES hc b7 hb7 q2
                  unfold flt at *
                  go_wp2
                  rw [Exit.noGoto_ret]
                  go_ret2
                  exact HO.out
                · have hRES := HPS.out
                  rw [if_neg (by rw [hc]; simp)] at hRES
                  rw [List.length_map, ENY.out] at ho7
                  obtain ⟨hS8, hb7⟩ := HS6H.out.added (lv' := .slice a7 (ny + 1) c7) b1 (by rw [ENY.out]; exact ho7) hg7 (by rw [List.length_map, ENY.out] at hv7; exact hv7)
                  have q7 := cell_of_block hb7 2
                  have f7 := frozen_of_block hb7 2
                  simp only [List.getElem?_toArray, List.getElem?_cons_zero, List.getElem?_cons_succ] at q7
                  have hHS := hS8.box.lines
                  have HI := hid_in (show InR R w N RES Y m2 kx kn (.slice va ng vc) (.slice ra nl rc) gs L (w7.setCell ⟨Y, 2, none⟩ (.slice a7 (ny + 1) c7)) from ⟨ys ++ [⟨g5, c5, x5, xs5⟩], .slice a7 (ny + 1) c7, r6, m5, hS8, by rw [HR6.out]; rw [plainL_snoc]; exact hRES, ⟨by omega, by simp; have := ENY.out; omega⟩, fun y hy => by
                    rcases List.mem_append.1 hy with hy | hy
                    · exact HYS.out y hy
                    · rw [List.mem_singleton.1 hy]; exact HSM.out⟩)
                  have hms : rdLines R (w7.setCell ⟨Y, 2, none⟩ (.slice a7 (ny + 1) c7)) < rdLines R wr := by rw [hHS, HRW.out, HR6.out]; omega
                  have HMS := hid_in hms
                  clear HPS HS6H hRES hc hS8 hb7 ho7 hg7 hv7 b1 q2 hHS hms
                  rw [List.length_map, ENY.out]
                  go_wp2
                  go_roundw
                  case rel => exact ⟨rfl, HI.out⟩
                  case measure => exact HMS.out
end Go.Proofs.YtpdahhnjhggocaaGreatDoor
