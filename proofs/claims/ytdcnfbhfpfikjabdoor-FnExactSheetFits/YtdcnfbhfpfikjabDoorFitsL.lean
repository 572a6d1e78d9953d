import Derived.Test.YtdcnfbhfpfikjabDoorFitsI
import Derived.Test.YtdcnfbhfpfikjabDoorEqStr
namespace Go.Proofs.YtdcnfbhfpfikjabDoor
open Go.RowKit
/-- Strings that came in: what a slice of them holds. -/
structure StrsIn (w : World) (a : Option Addr) (len : Nat) (ss : List (List UInt8)) : Prop where
  count : ss.length = len
  small : ∀ x ∈ ss, x.length ≤ 9223372036854775807
  few : len ≤ 9223372036854775807
  cells : len = 0 ∨ ∃ b off, a = some ⟨b, off, none⟩ ∧ ∀ j (h : j < ss.length), w.cell? ⟨b, off + j, none⟩ = some (.string ⟨ss[j].toArray⟩)
theorem StrsIn.below {w w' : World} {a : Option Addr} {len : Nat} {ss : List (List UInt8)} (h : StrsIn w a len ss) (hb : Below w.heap.size w w') : StrsIn w' a len ss := by
  refine ⟨h.count, h.small, h.few, ?_⟩
  rcases h.cells with h0 | ⟨b, off, rfl, hc⟩
  · exact .inl h0
  · exact .inr ⟨b, off, rfl, fun j hj => (hb.cell (World.block_lt_of_cell? w _ (hc j hj))).trans (hc j hj)⟩
def SmallTo (ss : List (List UInt8)) (j : Nat) : Prop := ∀ x ∈ ss.take j, x.length ≤ 1048576
theorem SmallTo.zero (ss : List (List UInt8)) : SmallTo ss 0 := by simp [SmallTo]
theorem SmallTo.succ {ss : List (List UInt8)} {j : Nat} (h : SmallTo ss j) (hj : j < ss.length) (hx : ss[j].length ≤ 1048576) : SmallTo ss (j + 1) := by
  unfold SmallTo at *
  rw [List.take_succ_eq_append_getElem hj]
  intro x hm
  rcases List.mem_append.1 hm with hm | hm
  · exact h x hm
  · rw [List.mem_singleton.1 hm]; exact hx
theorem SmallTo.all {ss : List (List UInt8)} (h : SmallTo ss ss.length) : ∀ x ∈ ss, x.length ≤ 1048576 := by
  unfold SmallTo at h; rwa [List.take_length] at h
/-- What the measure of a slice of strings answers. -/
def SzPost (len : Nat) (ss : List (List UInt8)) (e : Ending) : Prop := e = .returned (.int .i64 (-1)) ∨ ∃ r : Nat, e = .returned (.int .i64 (r : Int)) ∧ len ≤ 1048576 ∧ ∀ x ∈ ss, x.length ≤ 1048576
set_option maxHeartbeats 1000000 in
set_option maxRecDepth 100000 in
theorem szStrings_any {w : World} {a : Option Addr} {len cap : Nat} {ss : List (List UInt8)} (h : StrsIn w a len ss) : Calls Tryd.prog 4 #[.slice a len cap, .int .i64 1048576] w fun e w' => SzPost len ss e ∧ w' = w := by
  obtain ⟨hc, hsm, hf, hcell⟩ := h
  have hf' : (len : Int) ≤ 9223372036854775807 := by omega
  by_cases hl : len ≤ 1048576
  · have hl' : ¬ ((1048576 : Int) - (len : Int) < 0) := by omega
    go_enter Tryd.func4, Tryd.ntmps4
    go_wp2
    go_loop [1, 5] (fun q i => ∃ j r : Nat, j ≤ len ∧ r ≤ 1048576 ∧ i = .int .i64 (j : Int) ∧ q = .int .i64 (r : Int) ∧ SmallTo ss j) (fun _ i => len - (intOf i).toNat)
    case atStart => exact ⟨0, 1048576 - len, by omega, by omega, rfl, by congr 1; omega, SmallTo.zero _⟩
    case round =>
      obtain ⟨j, r, hj, hr, rfl, rfl, hA⟩ := hrel
      by_cases hlt : j < len
      · rcases hcell with h0 | ⟨b, off, rfl, hcell⟩
        · omega
        have c1 := hcell j (by omega)
        have hy : (ByteArray.mk ss[j].toArray).size = ss[j].length := by simp [ByteArray.size]
        have hy2 := hsm ss[j] (List.getElem_mem _)
        have hy1 := fun (h : ss[j].length ≤ 1048576) => hA.succ (by omega) h
        rw [← hy] at hy2 hy1
        generalize (⟨ss[j].toArray⟩ : ByteArray) = y at *
        clear hcell hsm hy hA
        have e1 : (y.size : Int) ≤ 9223372036854775807 := by omega
        by_cases hle : y.size ≤ r
        · have e2 : ¬ ((r : Int) - (y.size : Int) < 0) := by omega
          have HA := hy1 (by omega)
          clear hy1
          go_wp2
          go_round
          case rel => exact ⟨j + 1, r - y.size, by omega, by omega, by go_num, by congr 1; omega, HA⟩
          case measure => simp [intOf]; omega
        · have e2 : (r : Int) - (y.size : Int) < 0 := by omega
          clear hy1
          go_wp2
          go_ret
          exact ⟨.inl rfl, rfl⟩
      · obtain rfl : j = len := by omega
        have HA := SmallTo.all (hc ▸ hA)
        clear hA hsm hcell
        go_wp2
        go_ret
        exact ⟨.inr ⟨r, rfl, hl, HA⟩, rfl⟩
  · have hl' : (1048576 : Int) - (len : Int) < 0 := by omega
    clear hcell hsm
    go_enter Tryd.func4, Tryd.ntmps4
    go_wp2
    go_ret
    exact ⟨.inl rfl, rfl⟩
/-- The first j of one list, then the rest of another. -/
def mix (ys xs : List Value) (j : Nat) : List Value := ys.take j ++ xs.drop j
theorem mix_zero (ys xs : List Value) : mix ys xs 0 = xs := by simp [mix]
theorem mix_all {ys xs : List Value} {n : Nat} (h1 : ys.length = n) (h2 : xs.length = n) : mix ys xs n = ys := by simp [mix, ← h1, List.drop_eq_nil_of_le (by omega : xs.length ≤ ys.length)]
theorem mix_set {ys xs : List Value} {n : Nat} (h1 : ys.length = n) (h2 : xs.length = n) (j : Nat) (hj : j < n) (y : Value) (hy : ys[j]? = some y) : (mix ys xs j).set j y = mix ys xs (j + 1) := by
  unfold mix
  have e : (ys.take j).length = j := by simp; omega
  rw [List.set_append_right _ _ (by omega), e, Nat.sub_self, List.drop_eq_getElem_cons (by omega : j < xs.length), List.set_cons_zero]
  have hy' : ys[j]'(by omega) = y := by rw [List.getElem?_eq_getElem (by omega)] at hy; exact Option.some.inj hy
  rw [List.take_succ_eq_append_getElem (by omega : j < ys.length), hy', List.append_assoc]; rfl
theorem below_grownBy {w wr wr' : World} (hb : Below w.heap.size w wr) (hg : wr.grownBy wr' (some w.heap.size)) : Below w.heap.size w wr' := by
  obtain ⟨g1, g2, g3, g4, g5⟩ := hg
  have hs := hb.size
  exact ⟨g1.trans hb.os, g2.trans hb.tape, g3.trans hb.output, Nat.le_trans hs g4, fun k hk => (g5 k (by omega) (by intro h; cases h; omega)).trans (hb.block k hk)⟩
theorem below_made {w w' : World} (hg : w.grownBy w' none) : Below w.heap.size w w' := by
  obtain ⟨g1, g2, g3, g4, g5⟩ := hg
  exact ⟨g1, g2, g3, g4, fun k hk => g5 k hk (by intro h; cases h)⟩
set_option maxHeartbeats 1000000 in
set_option maxRecDepth 100000 in
theorem toStrings_any {w : World} {a : Option Addr} {len cap : Nat} {ss : List (List UInt8)} (h : StrsIn w a len ss) (hl : len ≤ 1048576) : Calls Tryd.prog 6 #[.slice a len cap] w fun e w' => (e = .returned (.slice (some ⟨w.heap.size, 0, none⟩) len len) ∧ w'.ownsRow w.heap.size 9 1 (.slice (some ⟨w.heap.size, 0, none⟩) len len) len (strs ss)) ∧ Below w.heap.size w w' := by
  obtain ⟨hc, _, _, hcell⟩ := h
  obtain ⟨i0, hi, hz0, hz1, hz2⟩ := info_parts info9
  go_enter Tryd.func6, Tryd.ntmps6
  go_wp2_with (with_reducible show wpList _ _ _ (Oper.mk _ (Op.makeSlice _ _ _) _ _ _ _ :: _) _ _; refine wpList_make_full w rfl _ _ _ rfl w.heap.size 9 i0 _ 1 Tryd.underlying22 hi hz0 hz1 .i64 .i64 (len : Int) (len : Int) len ?_ ?_ rfl rfl (by rw [hz2]; omega) (by unfold maxLen; omega) (Nat.le_refl _) ?_)
  · rfl
  · rfl
  intro w1 own1 gr1
  have b1 := below_made gr1
  have hmadeL : (madeCells #[Value.string ⟨#[]⟩] len).toList.length = len := by have := own1.1; omega
  generalize (madeCells #[Value.string ⟨#[]⟩] len).toList = zs at *
  clear gr1
  go_wp2
  go_loopw [4] (fun i wr => ∃ j : Nat, j ≤ len ∧ i = .int .i64 (j : Int) ∧ wr.ownsRow w.heap.size 9 1 (.slice (some ⟨w.heap.size, 0, none⟩) len len) len (mix (strs ss) zs j) ∧ Below w.heap.size w wr) (fun i _ => len - (intOf i).toNat)
  case atStart => exact ⟨0, by omega, rfl, by rw [mix_zero]; exact own1, b1⟩
  case round =>
    obtain ⟨j, hj, rfl, hown, hbw⟩ := hrel
    by_cases hlt : j < len
    · rcases hcell with h0 | ⟨b, off, rfl, hcell⟩
      · omega
      have c1 := (hbw.cell (World.block_lt_of_cell? w _ (hcell j (by omega)))).trans (hcell j (by omega))
      have hc2 := hown.cellAt j (by omega)
      obtain ⟨u, hu⟩ : ∃ u, (mix (strs ss) zs j)[j]? = some u := ⟨_, List.getElem?_eq_getElem (by have := hown.1; omega)⟩
      rw [hu] at hc2
      have hf := hown.frozenAt j
      have hst := hown.stored j (.string ⟨ss[j].toArray⟩)
      have HP : Hid _ := mix_set (show (strs ss).length = len by rw [strs_length]; omega) hmadeL j hlt (.string ⟨ss[j].toArray⟩) (strs_at ss j (by omega))
      generalize (⟨ss[j].toArray⟩ : ByteArray) = y at *
      clear hcell own1 b1 hu
      go_wp2
      go_roundw
      case rel =>
        refine ⟨j + 1, by omega, by go_num, ?_, below_grownBy hbw hst.2⟩
        rw [← HP.out]; exact hst.1
      case measure => simp [intOf]; omega
    · obtain rfl : j = len := by omega
      rw [mix_all (show (strs ss).length = j by rw [strs_length]; omega) hmadeL] at hown
      go_wp2
      go_ret
      exact ⟨⟨rfl, hown⟩, hbw⟩
set_option maxHeartbeats 2000000 in
set_option maxRecDepth 100000 in
theorem fitsLaw_any (kind key : ByteArray) (a : Option Addr) (len cap : Nat) (ss : List (List UInt8)) (w : World) (h : StrsIn w a len ss) (hst : StdAt w) :
    Calls Tryd.prog 3 #[.string kind, .string key, .slice a len cap] w fun e w' => e = .returned (.bool true) ∧ Below w.heap.size w w' := by
  by_cases h1 : (1048576 : Int) < (kind.size : Int)
  · clear h hst
    go_enter Tryd.func3, Tryd.ntmps3
    go_wp2
    go_ret
    exact ⟨rfl, Below.refl _ _⟩
  by_cases h2 : (1048576 : Int) < (key.size : Int)
  · clear h hst
    go_enter Tryd.func3, Tryd.ntmps3
    go_wp2
    go_ret
    exact ⟨rfl, Below.refl _ _⟩
  have HZ := szStrings_any (cap := cap) h
  go_enter Tryd.func3, Tryd.ntmps3
  go_wp2_with (go_at_call 4; refine HZ.mono ?_)
  rintro e (rfl | ⟨r, rfl, hl, hs⟩)
  · clear HZ h hst
    go_wp2
    go_ret
    exact ⟨rfl, Below.refl _ _⟩
  · clear HZ
    have hr0 : ¬ ((r : Int) < 0) := by omega
    have HT := toStrings_any (cap := cap) h hl
    go_wp2_with (go_at_call 6; refine HT.mono ?_)
    rintro e w1 ⟨⟨rfl, o1⟩, b1⟩
    clear HT
    have HF := specFits_any kind key o1 hl hs
    go_wp2_with (go_at_call 5; refine HF.mono ?_)
    rintro e w2 ⟨rfl, b2⟩
    clear HF o1
    have b12 := b1.trans (b2.mono b1.size)
    have HT := toStrings_any (cap := cap) (h.below b12) hl
    go_wp2_with (go_at_call 6; refine HT.mono ?_)
    rintro e w3 ⟨⟨rfl, o3⟩, b3⟩
    clear HT
    have b13 := b12.trans (b3.mono b12.size)
    have HF := implFits_any kind key o3 hl hs (hst.below b13)
    go_wp2_with (go_at_call 7; refine HF.mono ?_)
    rintro e w4 ⟨rfl, b4⟩
    clear HF
    have b14 := b13.trans (b4.mono b13.size)
    have o4 := own_below o3 b4
    have hne : (fitsIn (rulesOf kind) key ss != fitsIn (rulesOf kind) key ss) = false := by simp
    generalize fitsIn (rulesOf kind) key ss = B at hne ⊢
    have HT := toStrings_any (cap := cap) (h.below b14) hl
    go_wp2_with (go_at_call 6; refine HT.mono ?_)
    rintro e w5 ⟨⟨rfl, o5⟩, b5⟩
    clear HT
    have b15 := b14.trans (b5.mono b14.size)
    have HE := eqStrings_own (own_below o4 b5) o5 hl
    go_wp2_with (go_at_call 8; refine HE.mono ?_)
    rintro e w6 ⟨rfl, q, rfl⟩
    clear HE
    go_wp2
    go_ret
    exact ⟨rfl, below_drewN b15 q⟩
end Go.Proofs.YtdcnfbhfpfikjabDoor
