import Derived.Test.YtdcnfbhfpfikjaaDoorDrawC
import Derived.Test.YtdcnfbhfpfikjaaDoorWordsH
import Derived.Test.YtdcnfbhfpfikjaaDoorWordsP1
import Derived.Test.YtdcnfbhfpfikjaaDoorWWords
namespace Go.Proofs.YtdcnfbhfpfikjaaDoor
open Go.RowKit
/-- What comes back, and that nothing old has turned. -/
def Ret (v : Value) (w : World) (e : Ending) (w' : World) : Prop := e = .returned v ∧ Below w.heap.size w w'
def TextOf (w : World) (e : Ending) (w' : World) : Prop := ∃ t : ByteArray, t.size ≤ 100000 ∧ e = .returned (.string t) ∧ Below w.heap.size w w'
theorem Code.below {B B' : Nat} {w w' : World} {a : Option Addr} {len cap : Nat} (h : Code B w a len cap) (hb : Below B w w') (hB : B ≤ B') : Code B' w' a len cap := by
  refine ⟨h.1, h.2.1, h.2.2.1, ?_⟩
  rcases h.2.2.2 with h0 | ⟨b, off, ha, hb1, hc⟩
  · exact Or.inl h0
  · exact Or.inr ⟨b, off, ha, by omega, fun i hi => by obtain ⟨z, hz, hcl⟩ := hc i hi; exact ⟨z, hz, by rw [hb.cell (by simp; omega)]; exact hcl⟩⟩
theorem wWords_b {A B n : Nat} {va vb : Value} {xs : List (List UInt8)} {w : World} (ha : w.ownsRow A 9 1 va n (strs xs)) (hb : w.ownsRow B 9 1 vb n (strs xs)) (hn : n ≤ 1048576) :
    Calls Tryd.prog 9 #[va, vb] w fun e w' => Ret (.bool true) w e w' :=
  (wWords_own ha hb hn).mono fun e w' ⟨he, q, hq⟩ => ⟨he, by rw [hq]; exact below_drewN (Below.refl _ _) q⟩
theorem outL_len (ws : List (List UInt8)) (h : ∀ w ∈ ws, w.length ≤ 200) : (outL ws).length ≤ ws.length * 603 := by
  induction ws with
  | nil => simp [outL]
  | cons w r ih =>
    have h1 := wordL_len w
    have h2 := h w (by simp)
    have h3 := ih (fun x hx => h x (by simp [hx]))
    have e : outL (w :: r) = wordL w ++ [32] ++ outL r := by simp [outL]
    rw [e]
    simp only [List.length_append, List.length_cons, List.length_nil]
    have : (r.length + 1) * 603 = r.length * 603 + 603 := by rw [Nat.add_mul]
    omega
theorem cat3 (a b : List UInt8) : (⟨a.toArray⟩ ++ ⟨b.toArray⟩ ++ ⟨#[32]⟩ : ByteArray) = ⟨(a ++ b ++ [32]).toArray⟩ := by
  rw [cat_bytes]; exact cat_bytes _ [32]
theorem implWord_list (l : List UInt8) (w : World) (h : l.length ≤ 1048576) : Calls Tryd.prog 10 #[.string ⟨l.toArray⟩] w fun e w' => Ret (.string ⟨(wordL l).toArray⟩) w e w' :=
  implWord_any ⟨l.toArray⟩ w (by show l.toArray.size ≤ _; rw [List.size_toArray]; exact h)
theorem implWord_r (s : ByteArray) (w : World) (h : s.size ≤ 1048576) : Calls Tryd.prog 10 #[.string s] w fun e w' => Ret (.string ⟨(wordL s.data.toList).toArray⟩) w e w' := implWord_any s w h
theorem specWord_r (s : ByteArray) (w : World) (h : s.size ≤ 1048576) : Calls Tryd.prog 12 #[.string s] w fun e w' => Ret (.string ⟨(wordL s.data.toList).toArray⟩) w e w' := specWord_any s w h
theorem implWords_at (s : ByteArray) (w : World) (hs : s.size ≤ 1048576) : Calls Tryd.prog 7 #[.string s] w fun e w' => CutAt (cutL s.data.toList).isNone ((cutL s.data.toList).getD []) w e w' :=
  (implWords_any s w hs).mono fun _ _ h => cutAt_of h
theorem specWords_at (s : ByteArray) (w : World) (hs : s.size ≤ 1048576) : Calls Tryd.prog 8 #[.string s] w fun e w' => CutAt (cutL s.data.toList).isNone ((cutL s.data.toList).getD []) w e w' :=
  (specWords_any s w hs).mono fun _ _ h => cutAt_of h
theorem implWords_out (xs : List (List UInt8)) (h200 : ∀ w ∈ xs, w.length ≤ 200) (h8 : xs.length ≤ 8) (w : World) : Calls Tryd.prog 7 #[.string ⟨(outL xs).toArray⟩] w fun e w' => CutAt false xs w e w' := by
  have h := implWords_at ⟨(outL xs).toArray⟩ w (by
    show (outL xs).toArray.size ≤ _
    rw [List.size_toArray]; have := outL_len xs h200; omega)
  have e : cutL (⟨(outL xs).toArray⟩ : ByteArray).data.toList = some xs := cutL_written xs h200 h8
  rw [e] at h
  exact h
set_option maxHeartbeats 4000000 in
set_option maxRecDepth 100000 in
theorem fnWords_any (a : Option Addr) (len cap : Nat) (w : World) (hc : len ≤ 1048576 → Code w.heap.size w a len cap) (hlen : len ≤ 9223372036854775807) :
    Calls Tryd.prog 3 #[.slice a len cap] w fun e w' => e = .returned (.bool true) ∧ Below w.heap.size w w' := by
  by_cases hs : len ≤ 1048576
  · have hs' : ¬ (1048576 : Int) < (len : Int) := by omega
    have hC := hc hs
    clear hc
    have HD : Calls Tryd.prog 6 #[.slice a len cap] w fun e w' => TextOf w e w' := drawWords_any a len cap w hC
    go_enter Tryd.func3, Tryd.ntmps3
    go_wp2_with (go_at_call 6; refine HD.mono ?_)
    rintro e w1 ⟨line, hl, rfl, b1⟩
    have z1 := b1.size
    have HI := fun W => implWords_at line W (by omega)
    have HS := fun W => specWords_at line W (by omega)
    have h8 := cutL_len line.data.toList
    have h200 := cutL_200 line.data.toList
    have HO := implWords_out _ h200 h8
    clear HD
    generalize (cutL line.data.toList).isNone = b at *
    generalize (cutL line.data.toList).getD [] = xs at *
    go_wp2_with (go_at_call 7; refine (HI _).mono ?_)
    rintro e w2 ⟨ao2, cap2, rfl, o2, b2⟩
    have z2 := b2.size
    go_wp2_with (go_at_call 8; refine (HS _).mono ?_)
    rintro e w3 ⟨ao3, cap3, rfl, o3, b3⟩
    have z3 := b3.size
    simp only [World.size_alloc] at z3 o3 b3
    have B3 : Below w.heap.size w w3 := ((b1.trans (b2.mono z1)).alloc (by omega) _).trans (b3.mono (by omega))
    have k0 : w3.cell? ⟨w2.heap.size, 0, none⟩ = some (.slice ao2 xs.length cap2) := by rw [b3.cell (by simp)]; simp
    have k1 : w3.cell? ⟨w2.heap.size, 1, none⟩ = some (.bool b) := by rw [b3.cell (by simp)]; simp
    have o2' := own_below (o2.alloc (.cells #[.slice ao2 xs.length cap2, .bool b] 26)) (by rw [World.size_alloc]; exact b3)
    have k0' := fun o => cell_old w3 o _ _ k0
    have k1' := fun o => cell_old w3 o _ _ k1
    have hbb : (b != b) = false := by simp
    clear HI HS b1 b2 b3 o2
    go_wp2_with (go_at_call 9; refine (wWords_b (o2'.alloc _) (o3.alloc _) (by omega)).mono ?_)
    rintro e w4 ⟨rfl, b4⟩
    have z4 := b4.size
    simp only [World.size_alloc] at z4 b4
    have B4 : Below w.heap.size w w4 := (B3.alloc B3.size _).trans (b4.mono (by have := B3.size; omega))
    have m0 : w4.cell? ⟨w2.heap.size, 0, none⟩ = some (.slice ao2 xs.length cap2) := by rw [b4.cell (by simp; omega)]; exact cell_old w3 _ _ _ k0
    have o24 := own_below (o2'.alloc (.cells #[.slice ao3 xs.length cap3, .bool b] 26)) (by rw [World.size_alloc]; exact b4)
    clear k0' k1' k0 k1 o2' o3 b4 B3
    go_wp2
    go_loopw [6, 7] (fun o i wr => ∃ j : Nat, j ≤ xs.length ∧ i = .int .i64 (j : Int) ∧ o = .string ⟨(outL (xs.take j)).toArray⟩ ∧ Below w4.heap.size w4 wr) (fun _ i _ => xs.length - (intOf i).toNat)
    case atStart => exact ⟨0, by omega, rfl, rfl, Below.refl _ _⟩
    case round =>
      obtain ⟨j, hj, rfl, rfl, hbw⟩ := hrel
      have zr := hbw.size
      have n0 : wr.cell? ⟨w2.heap.size, 0, none⟩ = some (.slice ao2 xs.length cap2) := by rw [hbw.cell (by simp; omega)]; exact m0
      by_cases hlt : j < xs.length
      · obtain ⟨_, _, e1, hf⟩ := own_form o24
        rcases hf with hf | ⟨g, hg⟩
        · omega
        · have ego : ao2 = some ⟨g, 0, none⟩ := by cases e1; exact hg
          clear e1 hg
          subst ego
          have hcell := (own_below o24 hbw).cellAt j (by omega)
          rw [strs_at xs j hlt] at hcell
          have hx200 : (xs[j]).length ≤ 200 := h200 _ (List.getElem_mem _)
          have hol : (outL (xs.take j)).length ≤ 4824 := by
            have h1 := outL_len (xs.take j) (fun x hx => h200 x (List.mem_of_mem_take hx))
            have h2 : (xs.take j).length ≤ 8 := by rw [List.length_take]; omega
            have h3 : (xs.take j).length * 603 ≤ 8 * 603 := Nat.mul_le_mul h2 (Nat.le_refl _)
            omega
          have HT : Hid (outL (xs.take (j + 1)) = outL (xs.take j) ++ wordL xs[j] ++ [32]) := by show _ = _; rw [← outL_snoc, ← List.take_succ_eq_append_getElem hlt]
          generalize xs[j] = x at *
          have hwl := wordL_len x
          go_wp2_with (go_at_call 10; refine (implWord_list x _ (by omega)).mono ?_)
          rintro e w5 ⟨rfl, b5⟩
          go_wp2
          go_roundw
          case rel => exact ⟨j + 1, by omega, by go_num, by rw [HT.out]; exact congrArg Value.string (cat3 _ _), hbw.trans (b5.mono zr)⟩
          case measure => simp [intOf]; omega
      · obtain rfl : j = xs.length := by omega
        have HT : Hid (outL (xs.take xs.length) = outL xs) := by show _ = _; rw [List.take_length]
        have B5 := B4.trans (hbw.mono B4.size)
        have o25 := own_below o24 hbw
        rw [HT.out]
        clear hbw o24 B4 m0
        go_wp2_with (go_at_call 7; refine (HO _).mono ?_)
        rintro e w6 ⟨ao6, cap6, rfl, o6, b6⟩
        have z6 := b6.size
        have B6 := B5.trans (b6.mono B5.size)
        have p0 : w6.cell? ⟨w2.heap.size, 0, none⟩ = some (.slice ao2 xs.length cap2) := by rw [b6.cell (by simp; omega)]; exact n0
        have o26 := own_below o25 b6
        clear n0 o25 b6 B5 HO
        have HW : Calls Tryd.prog 11 #[.slice a len cap] (w6.alloc (.cells #[.slice ao6 xs.length cap6, .bool false] 26)) fun e w' => TextOf (w6.alloc (.cells #[.slice ao6 xs.length cap6, .bool false] 26)) e w' := drawWord_any a len cap (w6.alloc (.cells #[.slice ao6 xs.length cap6, .bool false] 26)) (hC.below (B6.alloc B6.size _) (by have := B6.size; simp; omega))
        go_wp2_with (go_at_call 11; refine HW.mono ?_)
        rintro e w7 ⟨t, ht, rfl, b7⟩
        have z7 := b7.size
        simp only [World.size_alloc] at z7 b7
        have q0 : w7.cell? ⟨w2.heap.size, 0, none⟩ = some (.slice ao2 xs.length cap2) := by rw [b7.cell (by simp; omega)]; exact cell_old w6 _ _ _ p0
        have r0 : w7.cell? ⟨w6.heap.size, 0, none⟩ = some (.slice ao6 xs.length cap6) := by rw [b7.cell (by simp)]; simp
        have r1 : w7.cell? ⟨w6.heap.size, 1, none⟩ = some (.bool false) := by rw [b7.cell (by simp)]; simp
        have o27 := own_below (o26.alloc (.cells #[.slice ao6 xs.length cap6, .bool false] 26)) (by rw [World.size_alloc]; exact b7)
        have o67 := own_below (o6.alloc (.cells #[.slice ao6 xs.length cap6, .bool false] 26)) (by rw [World.size_alloc]; exact b7)
        have B7 : Below w.heap.size w w7 := (B6.alloc B6.size _).trans (b7.mono (by have := B6.size; omega))
        clear p0 o26 o6 b7 B6 HW hC
        go_wp2_with (go_at_call 9; refine (wWords_b o67 o27 (by omega)).mono ?_)
        rintro e w8 ⟨rfl, b8⟩
        go_wp2_with (go_at_call 10; refine (implWord_r t _ (by omega)).mono ?_)
        rintro e w9 ⟨rfl, b9⟩
        go_wp2_with (go_at_call 12; refine (specWord_r t _ (by omega)).mono ?_)
        rintro e w10 ⟨rfl, b10⟩
        have B8 := B7.trans (b8.mono B7.size)
        have B9 := B8.trans (b9.mono B8.size)
        have B10 := B9.trans (b10.mono B9.size)
        go_wp2
        go_ret
        exact ⟨by simp, B10⟩
  · have hs' : (1048576 : Int) < (len : Int) := by omega
    go_enter Tryd.func3, Tryd.ntmps3
    go_wp2
    go_ret
    exact ⟨rfl, Below.refl _ _⟩
end Go.Proofs.YtdcnfbhfpfikjaaDoor
