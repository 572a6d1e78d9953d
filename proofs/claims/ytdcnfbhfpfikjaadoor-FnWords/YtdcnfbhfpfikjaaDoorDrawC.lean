import Derived.Test.YtdcnfbhfpfikjaaDoorDrawB
import Derived.Test.YtdcnfbhfpfikjaaDoorWordSpec2
import Derived.Test.YtdcnfbhfpfikjaaDoorWordImpl
namespace Go.Proofs.YtdcnfbhfpfikjaaDoor
open Go.RowKit
/-- What the walk is told of a code: it is short, and its bytes lie below B. -/
def Code (B : Nat) (w : World) (a : Option Addr) (len cap : Nat) : Prop :=
  len ≤ 1048576 ∧ len ≤ cap ∧ cap ≤ 9223372036854775807 ∧ (len = 0 ∨ ∃ b off, a = some ⟨b, off, none⟩ ∧ b < B ∧ ∀ i, i < len → ∃ z : Nat, z < 256 ∧ w.cell? ⟨b, off + i, none⟩ = some (.int .u8 (z : Int)))
theorem wordL_len (l : List UInt8) : (wordL l).length ≤ 3 * l.length + 2 := by
  unfold wordL
  split
  · omega
  · have := flat_len l
    simp only [quoteL, List.length_append, List.length_cons, List.length_nil]; omega
theorem wordL_size (s : ByteArray) : (⟨(wordL s.data.toList).toArray⟩ : ByteArray).size ≤ 3 * s.size + 2 := by
  show (wordL s.data.toList).toArray.size ≤ _
  rw [List.size_toArray]
  have := wordL_len s.data.toList
  have e : s.data.toList.length = s.size := by simp
  omega
theorem below_of_grown {B p : Nat} {a w w' : World} (h : Below B a w) (hB : B ≤ w.heap.size) (hp : B ≤ p) (g : w.grownBy w' (some p)) : Below B a w' :=
  h.grown g hB (fun k hk => by simp at hk; omega)
set_option maxHeartbeats 1000000 in
set_option maxRecDepth 100000 in
theorem drawWord_any (a : Option Addr) (len cap : Nat) (w : World) (hc : Code w.heap.size w a len cap) :
    Calls Tryd.prog 11 #[.slice a len cap] w fun e w' => ∃ t : ByteArray, t.size ≤ 100000 ∧ e = .returned (.string t) ∧ Below w.heap.size w w' := by
  have HO := l1Open_any w.heap.size a len cap w (Nat.le_refl _) hc.1 hc.2.1 hc.2.2.1 hc.2.2.2
  clear hc
  go_enter Tryd.func11, Tryd.ntmps11
  go_wp2_with (go_at_call 22; refine HO.mono ?_)
  rintro e w1 ⟨rfl, h1, b1⟩
  have z1 := b1.size
  go_wp2_with (go_at_call 25; refine (l1Text_any _ _ 0 w1 h1 (by omega)).mono ?_)
  rintro e w2 ⟨t, k2, ht, hk2, rfl, h2, g2⟩
  have z2 := g2.size
  go_wp2_with (go_at_call 26; refine (l1Bend_any _ _ k2 t w2 h2 (by omega) (by omega)).mono ?_)
  rintro e w3 ⟨u, k3, hu, hk3, rfl, h3, g3⟩
  go_wp2
  go_ret
  exact ⟨u, by omega, rfl, below_of_grown (below_of_grown b1 z1 (Nat.le_refl _) g2) (by omega) (Nat.le_refl _) g3⟩
set_option maxHeartbeats 2000000 in
set_option maxRecDepth 100000 in
theorem drawWords_any (a : Option Addr) (len cap : Nat) (w : World) (hc : Code w.heap.size w a len cap) :
    Calls Tryd.prog 6 #[.slice a len cap] w fun e w' => ∃ t : ByteArray, t.size ≤ 100000 ∧ e = .returned (.string t) ∧ Below w.heap.size w w' := by
  have HO := l1Open_any w.heap.size a len cap w (Nat.le_refl _) hc.1 hc.2.1 hc.2.2.1 hc.2.2.2
  clear hc
  go_enter Tryd.func6, Tryd.ntmps6
  go_wp2_with (go_at_call 22; refine HO.mono ?_)
  rintro e w1 ⟨rfl, h1, b1⟩
  have z1 := b1.size
  go_wp2_with (go_at_call 23; refine (pick_any _ _ 0 5 w1 h1 (by omega) (by omega) (by omega)).mono ?_)
  rintro e w2 ⟨x, hx, rfl, h2, g2⟩
  have b2 := below_of_grown b1 z1 (Nat.le_refl _) g2
  clear h1 b1 g2 HO
  go_wp2
  go_loopw [4, 5] (fun o i wr => ∃ (m k : Nat) (t : ByteArray), m ≤ 4 ∧ i = .int .i64 (m : Int) ∧ o = .string t ∧ t.size ≤ (4 - m) * 700 ∧ k ≤ 1 + (4 - m) * 10 ∧ Rd w.heap.size wr w.heap.size k ∧ Below w.heap.size w wr) (fun _ i _ => (intOf i).toNat)
  case atStart => exact ⟨x, 0 + 1, ⟨#[]⟩, by omega, rfl, rfl, by show 0 ≤ _; omega, by omega, h2, b2⟩
  case round =>
    obtain ⟨m, k, t, hm, rfl, rfl, ht, hk, hR, hbw⟩ := hrel
    have zr := hbw.size
    clear h2 b2
    by_cases h0 : m = 0
    · subst h0
      go_wp2_with (go_at_call 23; refine (pick_any _ _ k 10 wr hR (by omega) (by omega) (by omega)).mono ?_)
      rintro e w3 ⟨y, hy, rfl, h3, g3⟩
      have b3 := below_of_grown hbw zr (Nat.le_refl _) g3
      have z3 := b3.size
      clear hR hbw g3
      have hy4 : y = 0 ∨ y = 1 ∨ y = 2 ∨ y = 3 ∨ (4 ≤ y) := by omega
      rcases hy4 with rfl | rfl | rfl | rfl | hy4
      · go_wp2
        go_ret
        exact ⟨_, by simp only [ByteArray.size_append]; refine Nat.le_trans (Nat.add_le_add ht (show _ ≤ 100 by decide)) (by omega), rfl, b3⟩
      · go_wp2
        go_ret
        exact ⟨_, by simp only [ByteArray.size_append]; refine Nat.le_trans (Nat.add_le_add ht (show _ ≤ 100 by decide)) (by omega), rfl, b3⟩
      · go_wp2_with (go_at_call 26; refine (l1Bend_any _ _ (k + 1) t w3 h3 (by omega) (by omega)).mono ?_)
        rintro e w4 ⟨u, k4, hu, hk4, rfl, h4, g4⟩
        go_wp2
        go_ret
        exact ⟨u, by omega, rfl, below_of_grown b3 z3 (Nat.le_refl _) g4⟩
      · go_wp2_with (go_at_call 23; refine (pick_any _ _ (k + 1) 2 w3 h3 (by omega) (by omega) (by omega)).mono ?_)
        rintro e w4 ⟨x1, hx1, rfl, h4, g4⟩
        have b4 := below_of_grown b3 z3 (Nat.le_refl _) g4
        have z4 := b4.size
        have hm1 := l1Many_any ⟨#[119]⟩ (200 + x1) w4 (by decide) (by omega)
        rw [show ((200 + x1 : Nat) : Int) = 200 + (x1 : Int) from by omega] at hm1
        clear h3 b3 g4
        go_wp2_with (go_at_call 24; refine hm1.mono ?_)
        rintro e w4 ⟨u1, hu1, rfl, rfl⟩
        clear hm1
        go_wp2_with (go_at_call 23; refine (pick_any _ _ (k + 1 + 1) 2 w4 h4 (by omega) (by omega) (by omega)).mono ?_)
        rintro e w5 ⟨x2, hx2, rfl, h5, g5⟩
        have b5 := below_of_grown b4 z4 (Nat.le_refl _) g5
        have z5 := b5.size
        have hm2 := l1Many_any ⟨#[119]⟩ (200 + x2) w5 (by decide) (by omega)
        rw [show ((200 + x2 : Nat) : Int) = 200 + (x2 : Int) from by omega] at hm2
        clear h4 b4 g5
        go_wp2_with (go_at_call 24; refine hm2.mono ?_)
        rintro e w5 ⟨u2, hu2, rfl, rfl⟩
        have hu1' : u1.size ≤ 201 := by rw [hu1]; show 1 * (200 + x1) ≤ 201; omega
        have hu2' : u2.size ≤ 201 := by rw [hu2]; show 1 * (200 + x2) ≤ 201; omega
        clear hm2 hu1 hu2
        go_wp2_with (go_at_call 23; refine (pick_any _ _ (k + 1 + 1 + 1) 16 _ (h5.below ((Below.refl _ _).alloc (Nat.le_refl _) _)) (by omega) (by omega) (by omega)).mono ?_)
        rintro e w6 ⟨y, hy2, rfl, h6, g6⟩
        obtain ⟨u3, hu3⟩ : ∃ u3 : ByteArray, ({ data := #[34] } ++ u2 ++ { data := #[34] } : ByteArray) = u3 := ⟨_, rfl⟩
        rw [hu3] at g6
        have hu3' : u3.size ≤ 203 := by
          rw [← hu3]; simp only [ByteArray.size_append]; have e34 : (⟨#[34]⟩ : ByteArray).size = 1 := rfl; omega
        obtain ⟨u, hu, hc⟩ := tab_cell w5 w6 [⟨#[34, 92, 52, 49, 34]⟩, ⟨#[34, 92, 52, 34]⟩, ⟨#[34, 92]⟩, ⟨#[34, 97, 34, 98]⟩, ⟨#[97, 34, 98, 34]⟩, ⟨#[97, 92, 98]⟩, ⟨#[34, 97]⟩, ⟨#[34, 92, 122, 122, 34]⟩, ⟨#[9]⟩, ⟨#[97, 127]⟩, ⟨#[34, 92, 52, 65, 34]⟩, ⟨#[49, 32, 50, 32, 51, 32, 52, 32, 53, 32, 54, 32, 55, 32, 56]⟩, ⟨#[49, 32, 50, 32, 51, 32, 52, 32, 53, 32, 54, 32, 55, 32, 56, 32, 57]⟩, ⟨#[49, 32, 50, 32, 51, 32, 52, 32, 53, 32, 54, 32, 55, 32, 56, 32, 35]⟩, u1, u3] 203 y w.heap.size (by
          intro u hu
          simp only [List.mem_cons, List.not_mem_nil, or_false] at hu
          rcases hu with rfl | rfl | rfl | rfl | rfl | rfl | rfl | rfl | rfl | rfl | rfl | rfl | rfl | rfl | rfl | rfl
          all_goals first | omega | decide) hy2 g6 h5.lt
        clear hu3
        have b6 := below_of_grown (b5.alloc z5 _) (by simp; omega) (Nat.le_refl _) g6
        go_wp2
        go_ret
        exact ⟨u, by omega, rfl, b6⟩
      · have e0 : ((y : Int) == 0) = false := by rw [beq_eq_false_iff_ne]; omega
        have e1 : ((y : Int) == 1) = false := by rw [beq_eq_false_iff_ne]; omega
        have e2 : ((y : Int) == 2) = false := by rw [beq_eq_false_iff_ne]; omega
        have e3 : ((y : Int) == 3) = false := by rw [beq_eq_false_iff_ne]; omega
        go_wp2
        go_ret
        exact ⟨t, by omega, rfl, b3⟩
    · have hm1 : (0 : Int) < (m : Int) := by omega
      go_wp2_with (go_at_call 23; refine (pick_any _ _ k 2 wr hR (by omega) (by omega) (by omega)).mono ?_)
      rintro e w3 ⟨x1, hx1, rfl, h3, g3⟩
      have b3 := below_of_grown hbw zr (Nat.le_refl _) g3
      have z3 := b3.size
      have hmm := l1Many_any ⟨#[32]⟩ (1 + x1) w3 (by decide) (by omega)
      rw [show ((1 + x1 : Nat) : Int) = 1 + (x1 : Int) from by omega] at hmm
      clear hR hbw g3
      go_wp2_with (go_at_call 24; refine hmm.mono ?_)
      rintro e w3 ⟨u1, hu1, rfl, rfl⟩
      have hu1' : u1.size ≤ 2 := by rw [hu1]; show 1 * (1 + x1) ≤ 2; omega
      have htt : t.size ≤ 2800 := by omega
      clear hmm hu1
      go_wp2_with (go_at_call 25; refine (l1Text_any _ _ (k + 1) w3 h3 (by omega)).mono ?_)
      rintro e w4 ⟨u2, k4, hu2, hk4, rfl, h4, g4⟩
      have b4 := below_of_grown b3 z3 (Nat.le_refl _) g4
      have z4 := b4.size
      clear h3 b3 g4
      go_wp2_with (go_at_call 12; refine (specWord_any u2 _ (by omega)).mono ?_)
      rintro e w5 ⟨rfl, b5⟩
      have hws := wordL_size u2
      have hwl : (wordL u2.data.toList).length ≤ 602 := by
        have h1 := wordL_len u2.data.toList
        have h2 : u2.data.toList.length = u2.size := by simp
        omega
      have h5 := h4.below b5
      have b5' := b4.trans (b5.mono z4)
      clear h4 b4 b5
      go_wp2
      go_roundw
      case rel =>
        refine ⟨m - 1, k4, _, by omega, by go_num, rfl, ?_, by omega, h5, b5'⟩
        simp only [ByteArray.size_append]
        have e : (4 - (m - 1)) * 700 = (4 - m) * 700 + 700 := by
          rw [show 4 - (m - 1) = (4 - m) + 1 from by omega, Nat.add_mul]
        omega
      case measure => simp [intOf]; omega
end Go.Proofs.YtdcnfbhfpfikjaaDoor
