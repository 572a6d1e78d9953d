import Derived.Test.YtdcnfbhfpfikjaaRulesG
namespace Go.Proofs.Ytdcnfbhfpfikjaa
open Go.RowKit
def rowsOf (v : Value) (L : List RAt) : List MRow := ⟨v, 41, 4, L.length, L.flatMap RAt.cells⟩ :: L.flatMap RAt.rows
theorem RulesAt.two {B : Nat} {w1 w2 : World} {va vb : Value} {La Lb : List RAt} (ha : RulesAt B w1 va La) (hb : RulesAt w1.heap.size w2 vb Lb) (hbw : Below w1.heap.size w1 w2) (hB : B ≤ w1.heap.size) : RM B w2 vb Lb (rowsOf va La) :=
  Mem.join (N := rowsOf vb Lb) (show Mem B w1 (rowsOf va La) from ha) hb hbw hB
theorem RM.beside {B : Nat} {w : World} {va vb : Value} {La Lb : List RAt} (h : RM B w vb Lb (rowsOf va La)) : RulesAt B w va La := Mem.right (N := rowsOf vb Lb) h
set_option maxHeartbeats 4000000 in
set_option maxRecDepth 100000 in
theorem rulesLaw_any (a0 : ByteArray) (w0 : a0.size ≤ maxLen) (w : World) :
    Calls Try.prog 4 #[.string a0] w fun e w' => e = .returned (.bool true) ∧ Below w.heap.size w w' := by
  unfold maxLen at w0
  by_cases hs : a0.size ≤ 1048576
  · have hs' : ¬ (1048576 : Int) < (a0.size : Int) := by omega
    have HS : ∀ W, Calls Try.prog 7 #[.string a0] W fun e w' => RulesPost (rulesOf a0) W e w' := specRules_any a0
    have HI : ∀ W, Calls Try.prog 8 #[.string a0] W fun e w' => RulesPost (rulesOf a0) W e w' := implRules_any a0
    have hsm := rulesOf_small a0
    generalize rulesOf a0 = R at HS HI hsm
    go_enter Try.func4, Try.ntmps4
    go_wp2_with (go_at_call 7; refine (HS _).mono ?_)
    rintro e w1 ⟨v1, L1, rfl, p1, r1, b1⟩
    go_wp2_with (go_at_call 8; refine (HI _).mono ?_)
    rintro e w2 ⟨v2, L2, rfl, p2, r2, b2⟩
    have rm := r1.two r2 b2 b1.size
    have s1 := small_len p1 hsm
    have s2 := small_len p2 hsm
    have k2 := endK_small L2 1 s2.2
    have B2 := b1.trans (b2.mono b1.size)
    clear r1 r2 b1 b2
    have HQ := eqRules_own rm rm.beside.rm (by rw [p1, p2]) (by omega) (fun r hr => ⟨by have := (s2.2 r hr).1; omega, by have := (s2.2 r hr).2; omega⟩)
    go_wp2_with (go_at_call 9; refine HQ.mono ?_)
    rintro e w3 ⟨rfl, b3⟩
    have rm3 := rm.below b3
    have B3 := B2.trans (b3.mono B2.size)
    have HM := markRules_own (k := 1) B3.size rm3 (by omega) (Nat.le_refl _) (by omega)
    rw [show ((1 : Nat) : Int) = 1 from rfl] at HM
    clear rm b3 B2 HQ
    go_wp2_with (go_at_call 10; refine HM.mono ?_)
    rintro e w4 ⟨rfl, rm4, b4⟩
    have B4 := B3.trans b4
    have HH := heldRules_own (k := 1) rm4 (by omega) (Nat.le_refl _) (by omega)
    rw [show ((1 : Nat) : Int) = 1 from rfl] at HH
    have hne : ((endK 1 L2 : Int) != (endK 1 L2 : Int)) = false := by simp
    have hnn : ¬ ((endK 1 L2 : Int) < 0) := by omega
    clear rm3 b4 B3 HM
    go_wp2_with (go_at_call 11; refine HH.mono ?_)
    rintro e w5 ⟨rfl, b5⟩
    have rm5 := rm4.below b5
    have B5 := B4.trans (b5.mono B4.size)
    clear rm4 b5 B4 HH
    go_wp2_with (go_at_call 8; refine (HI _).mono ?_)
    rintro e w6 ⟨v6, L6, rfl, p6, r6, b6⟩
    have rm6 := rm5.below b6
    have s6 := small_len p6 hsm
    have B6 := B5.trans (b6.mono B5.size)
    clear rm5 b6
    have HQ := eqRules_own r6.rm rm6.beside.rm (by rw [p1, p6]) (by omega) (fun r hr => ⟨by have := (s6.2 r hr).1; omega, by have := (s6.2 r hr).2; omega⟩)
    go_wp2_with (go_at_call 9; refine HQ.mono ?_)
    rintro e w7 ⟨rfl, b7⟩
    have rm7 := rm6.below b7
    have B7 := B6.trans (b7.mono B6.size)
    have HH := heldRules_own (k := 1) rm7 (by omega) (Nat.le_refl _) (by omega)
    rw [show ((1 : Nat) : Int) = 1 from rfl] at HH
    clear rm6 b7 B6 HQ r6
    go_wp2_with (go_at_call 11; refine HH.mono ?_)
    rintro e w8 ⟨rfl, b8⟩
    go_wp2
    go_ret
    exact ⟨rfl, B7.trans (b8.mono B7.size)⟩
  · have hs' : (1048576 : Int) < (a0.size : Int) := by omega
    go_enter Try.func4, Try.ntmps4
    go_wp2
    go_ret
    exact ⟨rfl, Below.refl _ _⟩
end Go.Proofs.Ytdcnfbhfpfikjaa
