import Derived.Test.YtdcnfbhfpfikjaaDoorWordsE
import Derived.Test.YtdcnfbhfpfikjaaDoorWordsG
namespace Go.Proofs.YtdcnfbhfpfikjaaDoor
open Go.RowKit
theorem cutW_len : ∀ (f : Nat) (acc : List (List UInt8)) (l : List UInt8), acc.length ≤ 8 → ((cutW f acc l).getD []).length ≤ 8
  | 0, acc, [], h => by simpa [cutW] using h
  | 0, acc, _ :: _, h => by simp [cutW]
  | f + 1, acc, [], h => by simpa [cutW] using h
  | f + 1, acc, c :: r, h => by
    rw [cutW]
    split
    · exact cutW_len f acc r h
    · split
      · simpa using h
      · split
        · simp
        · split
          · rename_i hc
            exact cutW_len f _ _ (by rw [List.length_append]; simp; omega)
          · simp
theorem cutL_len (l : List UInt8) : ((cutL l).getD []).length ≤ 8 := cutW_len _ _ _ (by simp)
/-- CutPost, with the cut's parts under names. -/
def CutAt (b : Bool) (xs : List (List UInt8)) (w : World) (e : Ending) (w' : World) : Prop :=
  ∃ ao cap, e = .returned (.agg #[.slice ao xs.length cap, .bool b]) ∧ w'.ownsRow w.heap.size 9 1 (.slice ao xs.length cap) xs.length (strs xs) ∧ Below w.heap.size w w'
theorem cutAt_of {R : Option (List (List UInt8))} {w : World} {e : Ending} {w' : World} (h : CutPost R w e w') : CutAt R.isNone (R.getD []) w e w' := by
  obtain ⟨v, rfl, ho, hb⟩ := h
  obtain ⟨ao, cap, rfl, _⟩ := own_form ho
  exact ⟨ao, cap, rfl, ho, hb⟩
theorem own_apart {v1 v2 : Value} {B1 N1 N2 : Nat} (f1 : ∀ g, v1.ownBlock = some g → B1 ≤ g ∧ g < N1) (f2 : ∀ g, v2.ownBlock = some g → N1 + 1 ≤ g ∧ g < N2) : v1.ownBlock = none ∨ v1.ownBlock ≠ v2.ownBlock := by
  cases h : v1.ownBlock with
  | none => exact Or.inl rfl
  | some g =>
    right
    intro h2
    have a := (f1 g h).2
    have b := (f2 g h2.symm).1
    omega
theorem cell_old (w : World) (o : Obj) (p : Addr) (v : Value) (h : w.cell? p = some v) : (w.alloc o).cell? p = some v := by
  have := World.block_lt_of_cell? w p h
  rw [((Below.refl w.heap.size w).alloc (Nat.le_refl _) o).cell this]; exact h
set_option maxHeartbeats 4000000 in
set_option maxRecDepth 100000 in
theorem wordsLaw_any (a0 : ByteArray) (w0 : a0.size ≤ maxLen) (w : World) :
    Calls Tryd.prog 5 #[.string a0] w fun e w' => e = .returned (.bool true) ∧ Below w.heap.size w w' := by
  unfold maxLen at w0
  by_cases hs : a0.size ≤ 1048576
  · have hs' : ¬ (1048576 : Int) < (a0.size : Int) := by omega
    have HS : ∀ W, Calls Tryd.prog 8 #[.string a0] W fun e w' => CutAt (cutL a0.data.toList).isNone ((cutL a0.data.toList).getD []) W e w' := fun W => (specWords_any a0 W hs).mono fun _ _ h => cutAt_of h
    have HI : ∀ W, Calls Tryd.prog 7 #[.string a0] W fun e w' => CutAt (cutL a0.data.toList).isNone ((cutL a0.data.toList).getD []) W e w' := fun W => (implWords_any a0 W hs).mono fun _ _ h => cutAt_of h
    have hl := cutL_len a0.data.toList
    generalize (cutL a0.data.toList).isNone = b at *
    generalize (cutL a0.data.toList).getD [] = xs at *
    go_enter Tryd.func5, Tryd.ntmps5
    go_wp2_with (go_at_call 8; refine (HS _).mono ?_)
    rintro e w1 ⟨ao1, cap1, rfl, o1, b1⟩
    have z1 := b1.size
    go_wp2_with (go_at_call 7; refine (HI _).mono ?_)
    rintro e w2 ⟨ao2, cap2, rfl, o2, b2⟩
    have z2 := b2.size
    simp only [World.size_alloc] at z2 o2 b2
    have k0 : w2.cell? ⟨w1.heap.size, 0, none⟩ = some (.slice ao1 xs.length cap1) := by rw [b2.cell (by simp)]; simp
    have k1 : w2.cell? ⟨w1.heap.size, 1, none⟩ = some (.bool b) := by rw [b2.cell (by simp)]; simp
    have o1' := own_below (o1.alloc (.cells #[.slice ao1 xs.length cap1, .bool b] 26)) (by rw [World.size_alloc]; exact b2)
    have k0' := fun o => cell_old w2 o _ _ k0
    have k1' := fun o => cell_old w2 o _ _ k1
    go_wp2_with (go_at_call 19; refine (eqCut_own (o2.alloc _) (o1'.alloc _) (by omega)).mono ?_)
    rintro e w3 ⟨rfl, b3⟩
    have z3 := b3.size
    simp only [World.size_alloc] at z3 b3
    clear k0' k1'
    have m0 : w3.cell? ⟨w1.heap.size, 0, none⟩ = some (.slice ao1 xs.length cap1) := by rw [b3.cell (by simp; omega)]; exact cell_old w2 _ _ _ k0
    have m1 : w3.cell? ⟨w1.heap.size, 1, none⟩ = some (.bool b) := by rw [b3.cell (by simp; omega)]; exact cell_old w2 _ _ _ k1
    have n0 : w3.cell? ⟨w2.heap.size, 0, none⟩ = some (.slice ao2 xs.length cap2) := by rw [b3.cell (by simp)]; simp
    have n1 : w3.cell? ⟨w2.heap.size, 1, none⟩ = some (.bool b) := by rw [b3.cell (by simp)]; simp
    have o1'' := own_below (o1'.alloc (.cells #[.slice ao2 xs.length cap2, .bool b] 26)) (by rw [World.size_alloc]; exact b3)
    have o2'' := own_below (o2.alloc (.cells #[.slice ao2 xs.length cap2, .bool b] 26)) (by rw [World.size_alloc]; exact b3)
    have f1 := fun g hg => o1.lt g hg
    have f2 := fun g hg => o2.lt g hg
    have B3 : Below w.heap.size w w3 := (((b1.alloc z1 _).trans (b2.mono (by omega))).alloc (by omega) _).trans (b3.mono (by omega))
    clear k0 k1 o1' b1 b2 b3
    have HM := markCut_own (b := b) (k := 1) o2'' (Nat.le_refl _) (by omega)
    rw [show ((1 : Nat) : Int) = 1 from rfl] at HM
    go_wp2_with (go_at_call 20; refine HM.mono ?_)
    rintro e w4 ⟨rfl, o4, g4⟩
    have z4 := g4.size
    have B4 : Below w.heap.size w w4 := B3.grown g4 B3.size (fun g hg => by have := (f2 g hg).1; omega)
    have ne1 : some w1.heap.size ≠ (Value.slice ao2 xs.length cap2).ownBlock := fun h => by have := (f2 _ h.symm).1; omega
    have ne2 : some w2.heap.size ≠ (Value.slice ao2 xs.length cap2).ownBlock := fun h => by have := (f2 _ h.symm).2; omega
    have p0 := g4.cell m0 ne1
    have p1 := g4.cell m1 ne1
    have q0 := g4.cell n0 ne2
    have q1 := g4.cell n1 ne2
    have o14 := o1''.kept g4 (own_apart f1 f2)
    clear m0 m1 n0 n1 o1'' o2'' HM f1 f2 ne1 ne2 g4 B3
    have HH := heldCut_own (b := b) (k := 1) o4 (Nat.le_refl _) (by omega)
    rw [show ((1 : Nat) : Int) = 1 from rfl] at HH
    have hq : (0 : Int) ≤ 1 + (xs.length : Int) := by omega
    have hqq : ((1 + (xs.length : Int)) != (1 + (xs.length : Int))) = false := by simp
    go_wp2_with (go_at_call 21; refine HH.mono ?_)
    rintro e w5 ⟨rfl, b5⟩
    have z5 := b5.size
    have r0 : w5.cell? ⟨w1.heap.size, 0, none⟩ = some (.slice ao1 xs.length cap1) := by rw [b5.cell (by simp; omega)]; exact p0
    have r1 : w5.cell? ⟨w1.heap.size, 1, none⟩ = some (.bool b) := by rw [b5.cell (by simp; omega)]; exact p1
    have s0 : w5.cell? ⟨w2.heap.size, 0, none⟩ = some (.slice ao2 xs.length cap2) := by rw [b5.cell (by simp; omega)]; exact q0
    have s1 : w5.cell? ⟨w2.heap.size, 1, none⟩ = some (.bool b) := by rw [b5.cell (by simp; omega)]; exact q1
    have o15 := own_below o14 b5
    have o5 := own_below o4 b5
    have B5 := B4.trans (b5.mono B4.size)
    clear p0 p1 q0 q1 o14 o4 HH b5 B4
    go_wp2_with (go_at_call 7; refine (HI _).mono ?_)
    rintro e w6 ⟨ao3, cap3, rfl, o36, b6⟩
    have z6 := b6.size
    have t0 : w6.cell? ⟨w1.heap.size, 0, none⟩ = some (.slice ao1 xs.length cap1) := by rw [b6.cell (by simp; omega)]; exact r0
    have t1 : w6.cell? ⟨w1.heap.size, 1, none⟩ = some (.bool b) := by rw [b6.cell (by simp; omega)]; exact r1
    have u0 : w6.cell? ⟨w2.heap.size, 0, none⟩ = some (.slice ao2 xs.length cap2) := by rw [b6.cell (by simp; omega)]; exact s0
    have u1 : w6.cell? ⟨w2.heap.size, 1, none⟩ = some (.bool b) := by rw [b6.cell (by simp; omega)]; exact s1
    have o16 := own_below o15 b6
    have o26 := own_below o5 b6
    have B6 := B5.trans (b6.mono B5.size)
    clear r0 r1 s0 s1 o15 o5 b6 B5
    have t0' := fun o => cell_old w6 o _ _ t0
    have t1' := fun o => cell_old w6 o _ _ t1
    go_wp2_with (go_at_call 19; refine (eqCut_own (o36.alloc _) (o16.alloc _) (by omega)).mono ?_)
    rintro e w7 ⟨rfl, b7⟩
    have z7 := b7.size
    simp only [World.size_alloc] at z7 b7
    clear t0' t1'
    have v0 : w7.cell? ⟨w2.heap.size, 0, none⟩ = some (.slice ao2 xs.length cap2) := by rw [b7.cell (by simp; omega)]; exact cell_old w6 _ _ _ u0
    have v1 : w7.cell? ⟨w2.heap.size, 1, none⟩ = some (.bool b) := by rw [b7.cell (by simp; omega)]; exact cell_old w6 _ _ _ u1
    have o27 := own_below (o26.alloc (.cells #[.slice ao3 xs.length cap3, .bool b] 26)) (by rw [World.size_alloc]; exact b7)
    have B7 : Below w.heap.size w w7 := (B6.alloc B6.size _).trans (b7.mono (by have := B6.size; omega))
    have HH := heldCut_own (b := b) (k := 1) o27 (Nat.le_refl _) (by omega)
    rw [show ((1 : Nat) : Int) = 1 from rfl] at HH
    clear t0 t1 u0 u1 o16 o26 o36 b7 B6
    go_wp2_with (go_at_call 21; refine HH.mono ?_)
    rintro e w8 ⟨rfl, b8⟩
    go_wp2
    go_ret
    exact ⟨rfl, B7.trans (b8.mono B7.size)⟩
  · have hs' : (1048576 : Int) < (a0.size : Int) := by omega
    go_enter Tryd.func5, Tryd.ntmps5
    go_wp2
    go_ret
    exact ⟨rfl, Below.refl _ _⟩
end Go.Proofs.YtdcnfbhfpfikjaaDoor
