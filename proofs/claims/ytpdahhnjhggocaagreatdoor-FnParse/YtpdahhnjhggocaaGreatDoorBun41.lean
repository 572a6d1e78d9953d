import Derived.Test.YtpdahhnjhggocaaGreatDoorBun37
import Derived.Test.YtpdahhnjhggocaaGreatDoorBun29
import Derived.Test.YtpdahhnjhggocaaGreatDoorBun28
namespace Go.Proofs.YtpdahhnjhggocaaGreatDoor
open Go.RowKit
theorem flat_le {α : Type} (f : α → List UInt8) (c : Nat) : ∀ (l : List α), (∀ x ∈ l, (f x).length ≤ c) → (l.flatMap f).length ≤ l.length * c
  | [], _ => by simp
  | a :: l, h => by
    have h1 := h a (by simp)
    have h2 := flat_le f c l (fun x hx => h x (by simp [hx]))
    rw [List.flatMap_cons, List.length_append, List.length_cons, Nat.succ_mul]
    omega
theorem wordL_le (l : List UInt8) : (wordL l).length ≤ 3 * l.length + 2 := by
  unfold wordL
  split
  · omega
  · have := flat_le qb 3 l (fun c _ => qb_len c)
    simp only [quoteL, List.length_append, List.length_cons, List.length_nil]
    omega
theorem lineL_le {kind : ByteArray} {a : PLine} (h : fitsIn (rulesOf kind) a.key a.ws = true) : (lineL a).length ≤ 2100 := by
  obtain ⟨_, h2, _, h4, h5⟩ := fits_line h
  unfold lineL
  have := flat_le (fun w => 32 :: wordL w) 603 a.ws (fun w hw => by have := wordL_le w; have := h5 w hw; rw [List.length_cons]; omega)
  rw [List.length_append]
  have h6 : a.ws.length * 603 ≤ 3 * 603 := Nat.mul_le_mul_right _ h4
  omega
theorem blockL_le {b : PBlock} (h : WriteOk b) (hl : b.lines.length ≤ 1048576) : (blockL b).length ≤ 2300000000 := by
  have h1 := (kind_bare h.1).2
  have h2 := (name_bare h.2.1).2
  have h3 := flat_le (fun a => 32 :: 32 :: lineL a ++ [10]) 2103 b.lines (fun a ha => by have := lineL_le (h.2.2 a ha); simp; omega)
  have h4 : b.lines.length * 2103 ≤ 1048576 * 2103 := Nat.mul_le_mul_right _ hl
  unfold blockL headL
  simp only [List.length_append, List.length_cons, List.length_nil]
  omega
theorem sheetL_le {bs : List PBlock} (h : SheetOk bs) (hl : ∀ b ∈ bs, b.lines.length ≤ 1048576) : (sheetL bs).length ≤ 140737488355328 := by
  have h3 := flat_le blockL 2300000000 bs (fun b hb => blockL_le ⟨(h.2.1 b hb).1, (h.2.1 b hb).2.1, (h.2.1 b hb).2.2.1⟩ (hl b hb))
  have h4 : bs.length * 2300000000 ≤ 60 * 2300000000 := Nat.mul_le_mul_right _ h.1
  unfold sheetL
  omega
theorem blockL_ne (b : PBlock) : blockL b ≠ [] := by unfold blockL headL; simp
theorem sheetL_ne {bs : List PBlock} (h : bs ≠ []) : sheetL bs ≠ [] := by
  cases bs with
  | nil => exact absurd rfl h
  | cons b bs => rw [sheetL, List.flatMap_cons]; simp [blockL_ne b]
theorem sheetTo_succ (bs : List PBlock) (j : Nat) (b : PBlock) (hj : bs[j]? = some b) : sheetL (bs.take (j + 1)) = sheetL (bs.take j) ++ blockL b := by
  unfold sheetL
  rw [List.take_add_one, hj]
  simp
theorem sheetTo_le (bs : List PBlock) (j : Nat) : (sheetL (bs.take j)).length ≤ (sheetL bs).length := by
  unfold sheetL
  conv => rhs; rw [← List.take_append_drop j bs, List.flatMap_append]
  simp
end Go.Proofs.YtpdahhnjhggocaaGreatDoor
namespace Go.Proofs.YtpdahhnjhggocaaGreatDoor
open Go.RowKit
theorem txt_start (w0 : World) : Txt w0.heap.size w0.heap.size [] (w0.alloc (.cells #[.pointer none, .slice none 0 0] 102)) := by
  refine .inl ⟨Nat.le_refl _, .slice none 0 0, ?_, World.ownsRowF_nil _ _ _ _, ?_⟩
  · unfold World.alloc; simp
  · intro e; cases e
theorem txtText_any {B b : Nat} {l : List UInt8} {w : World} (h : Txt B b l w) (h0 : l ≠ []) : Calls Tryz.prog 71 #[.pointer (some ⟨b, 0, none⟩)] w fun e w' => e = .returned (.string ⟨l.toArray⟩) ∧ Wrote B b l w w' := by
  refine (bldText_any B b l w h h0).mono ?_
  rintro e w' ⟨rfl, h1, h2, h3⟩
  exact ⟨rfl, h1, h2, h3⟩
theorem printL_no {bs : List PBlock} (h : sheetB bs = false) : printL bs = [] := by unfold printL; rw [if_pos (.inl h)]
theorem printL_long {bs : List PBlock} (h : tooLongL (sheetL bs)) : printL bs = [] := by unfold printL; rw [if_pos (.inr h)]
theorem printL_yes {bs : List PBlock} (h : sheetB bs = true) (h2 : ¬ tooLongL (sheetL bs)) : printL bs = sheetL bs := by
  unfold printL
  rw [if_neg]
  rintro (e | e)
  · rw [h] at e; cases e
  · exact h2 e
set_option maxHeartbeats 4000000 in
set_option maxRecDepth 100000 in
theorem implPrint_any {v : Value} {bs : List BAt} {w : World} (hbs : BlocksIn w v bs) (hsm : BlocksSmall bs) (hst : StdAt w) : Calls Tryz.prog 20 #[.agg #[v]] w fun e w' => e = .returned (.string ⟨(printL (bs.map BAt.plain)).toArray⟩) ∧ Below w.heap.size w w' := by
  obtain ⟨al, cl, rfl⟩ := hbs.1.form
  have hn20 := hsm.1
  have b0 : Below w.heap.size w (w.alloc (.cells #[.slice al bs.length cl] 25)) := (Below.refl _ _).alloc (Nat.le_refl _) _
  have p0 := one_box (w := w) (cs := #[.slice al bs.length cl]) (T := 25) 0
  simp only [List.getElem?_toArray, List.getElem?_cons_zero] at p0
  have HV := implValid_any (hbs.below b0) hsm (hst.below b0)
  have hX := hid_in (hbs.below b0)
  have hS := hid_in hsm
  clear hbs hst
  generalize hn : bs.length = n at *
  generalize hPL : bs.map BAt.plain = PL at *
  have hP := hid_in hPL
  have hN := hid_in hn
  have hPN := hid_in (show PL.length = n by rw [← hPL, List.length_map, hn])
  have hLs := hid_in (show ∀ b ∈ PL, b.lines.length ≤ 1048576 by
    intro b hb
    rw [← hPL] at hb
    obtain ⟨x, hx, rfl⟩ := List.mem_map.1 hb
    have := (hsm.2 x hx).2.1
    simpa [BAt.plain] using this)
  clear hPL hn hsm
  cases hok : sheetB PL with
  | false =>
    rw [printL_no hok]
    rw [hok] at HV
    go_enter Tryz.func20, Tryz.ntmps20
    go_wp2_with (go_at_call 19; refine HV.mono ?_)
    first | rintro e w2 rfl b2 | rintro e w2 ⟨rfl, b2⟩
    go_wp2
    go_ret
    exact ⟨rfl, b0.trans (b2.mono b0.size)⟩
  | true =>
    rw [hok] at HV
    have hOK := sheetB_iff.1 hok
    have hle := sheetL_le hOK hLs.out
    have hSL := hid_in (fun h => printL_yes hok h)
    have hLG := hid_in (fun h => printL_long (bs := PL) h)
    clear hOK hok
    go_enter Tryz.func20, Tryz.ntmps20
    go_wp2_with (go_at_call 19; refine HV.mono ?_)
    first | rintro e w2 rfl b2 | rintro e w2 ⟨rfl, b2⟩
    clear HV
    generalize hW0 : w.alloc (.cells #[.slice al n cl] 25) = w1 at *
    clear hW0
    have hX2 := hid_in (hX.out.below b2)
    have p2 := (b2.cell (p := ⟨w.heap.size, 0, none⟩) (World.block_lt_of_cell? w1 _ p0)).trans p0
    have bw2 := b0.trans (b2.mono b0.size)
    clear hX p0 b2 b0
    have T0 := txt_start w2
    have hb0 : (w2.alloc (.cells #[.pointer none, .slice none 0 0] 102)).heap[w2.heap.size]? = some (.cells #[.pointer none, .slice none 0 0] 102) := by unfold World.alloc; simp
    have b3 : Below w2.heap.size w2 (w2.alloc (.cells #[.pointer none, .slice none 0 0] 102)) := (Below.refl _ _).alloc (Nat.le_refl _) _
    have p3 := (b3.cell (p := ⟨w.heap.size, 0, none⟩) (World.block_lt_of_cell? w2 _ p2)).trans p2
    clear p2
    go_wp2
    go_loopw [12] (fun i wr => ∃ j : Nat, j ≤ n ∧ i = .int .i64 (j : Int) ∧ Below w2.heap.size w2 wr ∧ Txt w2.heap.size w2.heap.size (sheetL (PL.take j)) wr ∧ (j = 0 → wr.heap[w2.heap.size]? = some (.cells #[.pointer none, .slice none 0 0] 102))) (fun i _ => n - (intOf i).toNat)
    case atStart => exact ⟨0, by omega, rfl, b3, by simpa [sheetL] using T0, fun _ => hb0⟩
    case round =>
      obtain ⟨j, hj, rfl, bj, Tj, zj⟩ := hrel
      by_cases hlt : j < n
      · obtain ⟨D, y, T, e0, hD⟩ := split1 bs j (by have := hN.out; omega)
        have hX6 := hX2.out
        rw [e0] at hX6
        obtain ⟨g, off, rfl, c3, c4, c5⟩ := hX6.1.block
        have hym : y ∈ bs := by rw [e0]; simp
        obtain ⟨ay, cy, e2⟩ := (hX2.out.2 y hym).1.form
        rw [hD] at c3 c4 c5
        rw [e2] at c5
        have c3' := (bj.cell (World.block_lt_of_cell? w2 _ c3)).trans c3
        have c4' := (bj.cell (World.block_lt_of_cell? w2 _ c4)).trans c4
        have c5' := (bj.cell (World.block_lt_of_cell? w2 _ c5)).trans c5
        have hPx : PL[j]? = some y.plain := by rw [← hP.out, e0, ← hD]; simp
        have hSj := hid_in (sheetTo_succ PL j y.plain hPx)
        have hlj := Nat.le_trans (sheetTo_le PL (j + 1)) hle
        rw [hSj.out, List.length_append] at hlj
        have ga : Below wr.heap.size wr (wr.alloc (.cells #[.string y.kind, .string y.name, .slice ay y.ls.length cy] 46)) := (Below.refl wr.heap.size wr).alloc (Nat.le_refl _) _
        have H1 := writeBlock_any rfl (hX2.out.2 y hym) (bj.trans (ga.mono bj.size)) (Tj.gr ga) hlj (hS.out.2 y hym).2
        rw [e2] at H1
        have i1 : (j : Int) < (n : Int) := by omega
        have i0 : (0 : Int) ≤ (j : Int) := by omega
        have bja := hid_in (bj.trans (ga.mono bj.size))
        clear c3 c4 c5 hX6 e2 ga zj hle hlj
        generalize hl1 : sheetL (PL.take (j + 1)) = l1 at *
        generalize sheetL (PL.take j) = l0 at *
        generalize y.ls.length = ny at *
        generalize blockL y.plain = yb at *
        generalize y.kind = yk at *
        generalize y.name = yn at *
        go_wp2_with (go_at_call 69; refine H1.mono ?_)
        first | rintro e w3 rfl W3 | rintro e w3 ⟨rfl, W3⟩
        clear H1
        go_wp2
        go_roundw
        case rel => exact ⟨j + 1, by omega, by go_num, bja.out.trans W3.2.1, by rw [hl1, hSj.out]; exact W3.1, fun h => by omega⟩
        case measure => simp [intOf]; omega
      · obtain rfl : j = n := by omega
        rw [show PL.take j = PL by rw [List.take_of_length_le (by rw [hPN.out]; exact Nat.le_refl _)]] at Tj
        have bwj := hid_in (bw2.trans (bj.mono bw2.size))
        have hbj := hid_in bj
        have hw2 := bw2.size
        by_cases hj0 : j = 0
        · have hz := zj hj0
          have hp : PL = [] := List.eq_nil_of_length_eq_zero (by rw [hPN.out, hj0])
          have hpr : printL PL = [] := by
            have : sheetL PL = [] := by rw [hp]; rfl
            rw [← this]
            exact hSL.out (by rw [this]; unfold tooLongL; simp [textLines, linesFrom])
          replace hpr := hid_in hpr
          have HT := bldText_nil w2.heap.size w2.heap.size wr hz
          have HL := tooLong_any ⟨#[]⟩ wr.drew (by decide)
          have HT2 := bldText_nil w2.heap.size w2.heap.size wr.drew hz
          have hlo : decide (tooLongL (⟨#[]⟩ : ByteArray).data.toList) = false := by unfold tooLongL; simp [textLines, linesFrom]
          rw [hlo] at HL
          clear hz hle hlo zj Tj
          go_wp2_with (first | (go_at_call 70; refine HL.mono ?_; rintro e w ⟨rfl, rfl⟩) | (go_at_call 71; refine HT.mono ?_; rintro e w ⟨rfl, rfl⟩) | (go_at_call 71; refine HT2.mono ?_; rintro e w ⟨rfl, rfl⟩))
          go_ret
          exact ⟨by rw [hpr.out]; rfl, bwj.out.drew.drew⟩
        · have hne : sheetL PL ≠ [] := sheetL_ne (fun e => by have := hPN.out; rw [e] at this; exact hj0 this.symm)
          have HT := txtText_any Tj hne
          have HL := fun W => tooLong_any ⟨(sheetL PL).toArray⟩ W (by show (sheetL PL).toArray.size ≤ _; rw [List.size_toArray]; omega)
          have HT2 := fun (W : World) (hW : Txt w2.heap.size w2.heap.size (sheetL PL) W) => txtText_any hW hne
          by_cases hlo : tooLongL (sheetL PL)
          · have hpr := hLG.out hlo
            replace hpr := hid_in hpr
            have hd : decide (tooLongL (⟨(sheetL PL).toArray⟩ : ByteArray).data.toList) = true := decide_eq_true hlo
            simp only [hd] at HL
            clear hd hlo hne hle zj hLG hSL
            generalize sheetL PL = l at *
            go_wp2_with (go_at_call 71; refine HT.mono ?_)
            first | rintro e w3 rfl W3 | rintro e w3 ⟨rfl, W3⟩
            go_wp2_with (go_at_call 70; refine (HL _).mono ?_; rintro e w ⟨rfl, rfl⟩)
            go_ret
            exact ⟨by rw [hpr.out]; rfl, bwj.out.trans (W3.2.1.mono hw2)⟩
          · have hpr := hSL.out hlo
            replace hpr := hid_in hpr
            have hd : decide (tooLongL (⟨(sheetL PL).toArray⟩ : ByteArray).data.toList) = false := decide_eq_false hlo
            simp only [hd] at HL
            clear hd hlo hne hle zj hLG hSL
            generalize sheetL PL = l at *
            go_wp2_with (go_at_call 71; refine HT.mono ?_)
            first | rintro e w3 rfl W3 | rintro e w3 ⟨rfl, W3⟩
            have HT3 := HT2 w3 W3.1
            clear HT HT2
            go_wp2_with (first | (go_at_call 70; refine (HL _).mono ?_; rintro e w ⟨rfl, rfl⟩) | (go_at_call 71; refine HT3.mono ?_))
            first | rintro e w4 rfl W4 | rintro e w4 ⟨rfl, W4⟩
            go_wp2
            go_ret
            exact ⟨by rw [hpr.out]; rfl, (bwj.out.trans (W3.2.1.mono hw2)).trans (W4.2.1.mono hw2)⟩
end Go.Proofs.YtpdahhnjhggocaaGreatDoor
