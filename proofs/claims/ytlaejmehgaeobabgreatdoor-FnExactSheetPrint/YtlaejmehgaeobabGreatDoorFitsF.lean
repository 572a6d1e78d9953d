import Derived.Test.YtlaejmehgaeobabGreatDoorFitsE
import Derived.Test.YtlaejmehgaeobabGreatDoorRulesM
namespace Go.Proofs.YtlaejmehgaeobabGreatDoor
open Go.RowKit
/-- Whether words are of the types of a list, one each. -/
def fitsWords (ns : List Int) (ws : List (List UInt8)) : Bool := decide (ns.length = ws.length) && (List.zipWith fitsB ns ws).all id
def FitTo (ns : List Int) (ws : List (List UInt8)) (k : Nat) : Prop := ((List.zipWith fitsB ns ws).take k).all id = true
theorem fitsWords_len {ns : List Int} {ws : List (List UInt8)} (h : ¬ ns.length = ws.length) : fitsWords ns ws = false := by unfold fitsWords; rw [decide_eq_false h]; rfl
theorem fitsWords_no {ns : List Int} {ws : List (List UInt8)} (k : Nat) (h1 : k < ns.length) (h2 : k < ws.length) (h : fitsB ns[k] ws[k] = false) : fitsWords ns ws = false := by
  unfold fitsWords
  rw [Bool.and_eq_false_iff]
  right
  rw [List.all_eq_false]
  refine ⟨false, ?_, by simp⟩
  rw [List.mem_iff_getElem]
  exact ⟨k, by simp; omega, by simp [h]⟩
theorem FitTo.zero (ns : List Int) (ws : List (List UInt8)) : FitTo ns ws 0 := by simp [FitTo]
theorem FitTo.succ {ns : List Int} {ws : List (List UInt8)} {k : Nat} (H : FitTo ns ws k) (h1 : k < ns.length) (h2 : k < ws.length) (h : fitsB ns[k] ws[k] = true) : FitTo ns ws (k + 1) := by
  unfold FitTo at H ⊢
  rw [List.take_succ_eq_append_getElem (by simp; omega), List.all_append, H]
  simp [h]
theorem FitTo.all {ns : List Int} {ws : List (List UInt8)} (H : FitTo ns ws ns.length) (hl : ns.length = ws.length) : fitsWords ns ws = true := by
  unfold fitsWords FitTo at *
  rw [List.take_of_length_le (by simp; omega)] at H
  rw [H, decide_eq_true hl]; rfl
theorem ints_cell (ns : List Int) (j : Nat) (h : j < ns.length) : (intsV ns)[j]? = some (.int .i64 ns[j]) := by simp [intsV, h]
set_option maxHeartbeats 1000000 in
set_option maxRecDepth 100000 in
theorem ruleTakes_any {B n m ca cb nw cw : Nat} {ao bo wo : Option Addr} {key : ByteArray} {many : Bool} {ns : List Int} {ws : List (List UInt8)} {w : World} (h1 : w.ownsRow B 3 1 (.slice ao n ca) n (intsV ns)) (h2 : HasRow w (.slice wo nw cw) nw 1 (strs ws)) (hn : n ≤ 1000) (hw : nw ≤ 1048576) (ht : ∀ t ∈ ns, 1 ≤ t ∧ t ≤ 6) (hs : ∀ x ∈ ws, x.length ≤ 1048576) (hst : StdAt w) :
    Calls Tryz.prog 152 #[.agg #[.string key, .slice ao n ca, .bool many, .slice bo m cb], .slice wo nw cw] w fun e w' => e = .returned (.bool (fitsWords ns ws)) ∧ Below w.heap.size w w' := by
  have l1 : ns.length = n := by have := h1.1; rw [intsV_length] at this; omega
  have l2 : ws.length = nw := by have := h2.1; rw [strs_length] at this; omega
  by_cases hlen : nw = n
  · subst hlen
    have hn0 : ((nw : Int) != (nw : Int)) = false := by simp
    obtain ⟨_, _, ea, f1⟩ := own_form h1
    cases ea
    have B0 := (Below.refl w.heap.size w).alloc (Nat.le_refl _) (.cells #[.string key, .slice ao nw ca, .bool many, .slice bo m cb] 94)
    go_enter Tryz.func152, Tryz.ntmps152
    go_wp2
    go_loopw [16] (fun i wr => ∃ j : Nat, j ≤ nw ∧ i = .int .i64 (j : Int) ∧ Below w.heap.size w wr ∧ FitTo ns ws j) (fun i _ => nw - (intOf i).toNat)
    case atStart => exact ⟨0, by omega, rfl, B0, FitTo.zero _ _⟩
    case round =>
      obtain ⟨j, hj, rfl, hbw, hA⟩ := hrel
      by_cases hlt : j < nw
      · rcases f1 with f1 | ⟨g, rfl⟩
        · omega
        obtain ⟨h, off, rfl, c2⟩ := (h2.below hbw).word j (by omega)
        have c1 := (own_below h1 hbw).cellAt j (by omega)
        rw [ints_cell ns j (by omega)] at c1
        have H := fun W hW => takes_any ns[j] (ht _ (List.getElem_mem _)).1 (ht _ (List.getElem_mem _)).2 ⟨ws[j].toArray⟩ W (by simpa [ByteArray.size] using hs ws[j] (List.getElem_mem _)) hW
        have hst' := hst.below hbw
        cases hf : fitsB ns[j] ws[j]
        · have HB := hid_in (fitsWords_no j (by omega) (by omega) hf).symm
          have H' : ∀ W, StdAt W → Calls Tryz.prog 169 #[.int .i64 ns[j], .string ⟨ws[j].toArray⟩] W fun e w' => e = .returned (.bool false) ∧ Below W.heap.size W w' := by rw [← hf]; exact H
          generalize ns[j] = x at *
          generalize (⟨ws[j].toArray⟩ : ByteArray) = y at *
          clear H hA hf hs ht h1 h2 hst B0
          go_wp2_with (go_at_call 169; refine (H' _ hst').mono ?_; rintro e w1 ⟨rfl, b1⟩)
          go_ret
          exact ⟨ret_bool HB.out, hbw.trans (b1.mono hbw.size)⟩
        · have HA := hA.succ (by omega) (by omega) hf
          have H' : ∀ W, StdAt W → Calls Tryz.prog 169 #[.int .i64 ns[j], .string ⟨ws[j].toArray⟩] W fun e w' => e = .returned (.bool true) ∧ Below W.heap.size W w' := by rw [← hf]; exact H
          generalize ns[j] = x at *
          generalize (⟨ws[j].toArray⟩ : ByteArray) = y at *
          clear H hA hf hs ht h1 h2 hst B0
          go_wp2_with (go_at_call 169; refine (H' _ hst').mono ?_; rintro e w1 ⟨rfl, b1⟩)
          go_roundw
          case rel => exact ⟨j + 1, by omega, by go_num, hbw.trans (b1.mono hbw.size), HA⟩
          case measure => simp [intOf]; omega
      · obtain rfl : j = nw := by omega
        have HB := hid_in (FitTo.all (by rw [l1]; exact hA) (by omega)).symm
        clear hA
        go_wp2
        go_ret
        exact ⟨ret_bool HB.out, hbw⟩
  · have hn0 : ((nw : Int) != (n : Int)) = true := by rw [bne_iff_ne]; omega
    have HB := hid_in (fitsWords_len (ns := ns) (ws := ws) (by omega)).symm
    have B0 := (Below.refl w.heap.size w).alloc (Nat.le_refl _) (.cells #[.string key, .slice ao n ca, .bool many, .slice bo m cb] 94)
    clear h1 h2 hs ht
    go_enter Tryz.func152, Tryz.ntmps152
    go_wp2
    go_ret
    exact ⟨ret_bool HB.out, B0⟩
end Go.Proofs.YtlaejmehgaeobabGreatDoor
