import Derived.Test.YtdcnfbhfpfikjaaDoorDrawK
import Derived.Test.YtdcnfbhfpfikjaaDoorFitsI
namespace Go.Proofs.YtdcnfbhfpfikjaaDoor
open Go.RowKit
set_option maxHeartbeats 1000000 in
theorem l2Word_1 (B p k : Nat) (w : World) (h : Rd B w p k) (hk : k ≤ 900000) :
    Calls Tryd.prog 59 #[.pointer (some ⟨p, 0, none⟩), .int .i64 1] w fun e w' => Drawn 200 B p w e w' k 2 := by
  go_enter Tryd.func59, Tryd.ntmps59
  go_wp2_with (go_at_call 23; refine (pick_any B p k 6 _ (h.below ((Below.refl _ _).alloc (Nat.le_refl _) _)) (by omega) (by omega) (by omega)).mono ?_)
  rintro e w2 ⟨y, hy, rfl, h2, g2⟩
  obtain ⟨u, hu, hc⟩ := tab_cell w w2 [⟨#[48]⟩, ⟨#[49]⟩, ⟨#[50]⟩, ⟨#[55]⟩, ⟨#[49, 48, 48]⟩, ⟨#[49, 48, 48, 48, 48, 48, 48]⟩] 10 y p (by decide) hy g2 h.lt
  go_wp2
  go_ret
  exact ⟨u, k + 1, by omega, by omega, rfl, h2, grown_trans (grown_but (World.grownBy_alloc _ _ _) _) g2⟩
set_option maxHeartbeats 1000000 in
theorem l2Word_2 (B p k : Nat) (w : World) (h : Rd B w p k) (hk : k ≤ 900000) :
    Calls Tryd.prog 59 #[.pointer (some ⟨p, 0, none⟩), .int .i64 2] w fun e w' => Drawn 200 B p w e w' k 2 := by
  go_enter Tryd.func59, Tryd.ntmps59
  go_wp2_with (go_at_call 23; refine (pick_any B p k 5 _ (h.below ((Below.refl _ _).alloc (Nat.le_refl _) _)) (by omega) (by omega) (by omega)).mono ?_)
  rintro e w2 ⟨y, hy, rfl, h2, g2⟩
  obtain ⟨u, hu, hc⟩ := tab_cell w w2 [⟨#[48]⟩, ⟨#[45, 49]⟩, ⟨#[53]⟩, ⟨#[45, 57]⟩, ⟨#[45, 49, 48, 48, 48, 48, 48, 48]⟩] 10 y p (by decide) hy g2 h.lt
  go_wp2
  go_ret
  exact ⟨u, k + 1, by omega, by omega, rfl, h2, grown_trans (grown_but (World.grownBy_alloc _ _ _) _) g2⟩
set_option maxHeartbeats 1000000 in
theorem l2Word_3 (B p k : Nat) (w : World) (h : Rd B w p k) (hk : k ≤ 900000) :
    Calls Tryd.prog 59 #[.pointer (some ⟨p, 0, none⟩), .int .i64 3] w fun e w' => Drawn 200 B p w e w' k 2 := by
  go_enter Tryd.func59, Tryd.ntmps59
  go_wp2_with (go_at_call 23; refine (pick_any B p k 4 _ (h.below ((Below.refl _ _).alloc (Nat.le_refl _) _)) (by omega) (by omega) (by omega)).mono ?_)
  rintro e w2 ⟨y, hy, rfl, h2, g2⟩
  obtain ⟨u, hu, hc⟩ := tab_cell w w2 [⟨#[99, 111, 114, 101]⟩, ⟨#[122]⟩, ⟨#[101, 97, 115, 116]⟩, ⟨#[97, 45, 49]⟩] 10 y p (by decide) hy g2 h.lt
  go_wp2
  go_ret
  exact ⟨u, k + 1, by omega, by omega, rfl, h2, grown_trans (grown_but (World.grownBy_alloc _ _ _) _) g2⟩
set_option maxHeartbeats 1000000 in
theorem l2Word_5 (B p k : Nat) (w : World) (h : Rd B w p k) (hk : k ≤ 900000) :
    Calls Tryd.prog 59 #[.pointer (some ⟨p, 0, none⟩), .int .i64 5] w fun e w' => Drawn 200 B p w e w' k 2 := by
  go_enter Tryd.func59, Tryd.ntmps59
  go_wp2_with (go_at_call 23; refine (pick_any B p k 2 _ (h.below ((Below.refl _ _).alloc (Nat.le_refl _) _)) (by omega) (by omega) (by omega)).mono ?_)
  rintro e w2 ⟨y, hy, rfl, h2, g2⟩
  obtain ⟨u, hu, hc⟩ := tab_cell w w2 [⟨#[121, 101, 115]⟩, ⟨#[110, 111]⟩] 10 y p (by decide) hy g2 h.lt
  go_wp2
  go_ret
  exact ⟨u, k + 1, by omega, by omega, rfl, h2, grown_trans (grown_but (World.grownBy_alloc _ _ _) _) g2⟩
set_option maxHeartbeats 1000000 in
theorem l2Word_6 (B p k : Nat) (w : World) (h : Rd B w p k) (hk : k ≤ 900000) :
    Calls Tryd.prog 59 #[.pointer (some ⟨p, 0, none⟩), .int .i64 6] w fun e w' => Drawn 200 B p w e w' k 2 := by
  go_enter Tryd.func59, Tryd.ntmps59
  go_wp2_with (go_at_call 23; refine (pick_any B p k 3 _ (h.below ((Below.refl _ _).alloc (Nat.le_refl _) _)) (by omega) (by omega) (by omega)).mono ?_)
  rintro e w2 ⟨y, hy, rfl, h2, g2⟩
  obtain ⟨u, hu, hc⟩ := tab_cell w w2 [⟨#[110, 111, 110, 101]⟩, ⟨#[98, 101, 114, 116, 104]⟩, ⟨#[122, 111, 110, 101]⟩] 10 y p (by decide) hy g2 h.lt
  go_wp2
  go_ret
  exact ⟨u, k + 1, by omega, by omega, rfl, h2, grown_trans (grown_but (World.grownBy_alloc _ _ _) _) g2⟩
set_option maxHeartbeats 1000000 in
theorem l2Word_4 (B p k : Nat) (w : World) (h : Rd B w p k) (hk : k ≤ 900000) :
    Calls Tryd.prog 59 #[.pointer (some ⟨p, 0, none⟩), .int .i64 4] w fun e w' => Drawn 200 B p w e w' k 2 := by
  go_enter Tryd.func59, Tryd.ntmps59
  go_wp2_with (go_at_call 25; refine (l1Text_any B p k w h hk).mono ?_)
  rintro e w2 ⟨u, k2, hu, hk2, rfl, h2, g2⟩
  go_wp2
  go_ret
  exact ⟨u, k2, hu, hk2, rfl, h2, g2⟩
theorem l2Word_any (B p k : Nat) (t : Int) (h1 : 1 ≤ t) (h6 : t ≤ 6) (w : World) (h : Rd B w p k) (hk : k ≤ 900000) :
    Calls Tryd.prog 59 #[.pointer (some ⟨p, 0, none⟩), .int .i64 t] w fun e w' => Drawn 200 B p w e w' k 2 := by
  rcases six h1 h6 with rfl | rfl | rfl | rfl | rfl | rfl
  · exact l2Word_1 B p k w h hk
  · exact l2Word_2 B p k w h hk
  · exact l2Word_3 B p k w h hk
  · exact l2Word_4 B p k w h hk
  · exact l2Word_5 B p k w h hk
  · exact l2Word_6 B p k w h hk
set_option maxHeartbeats 1000000 in
set_option maxRecDepth 100000 in
theorem l2Odd_any (B p k : Nat) (w : World) (h : Rd B w p k) (hk : k ≤ 900000) :
    Calls Tryd.prog 43 #[.pointer (some ⟨p, 0, none⟩)] w fun e w' => Drawn 201 B p w e w' k 2 := by
  go_enter Tryd.func43, Tryd.ntmps43
  go_wp2_with (go_at_call 23; refine (pick_any B p k 2 w h (by omega) (by omega) (by omega)).mono ?_)
  rintro e w1 ⟨x, hx, rfl, h1, g1⟩
  have hm := l1Many_any ⟨#[110]⟩ (20 + x) w1 (by decide) (by omega)
  rw [show ((20 + x : Nat) : Int) = 20 + (x : Int) from by omega] at hm
  go_wp2_with (go_at_call 24; refine hm.mono ?_)
  rintro e w1 ⟨t, ht, rfl, rfl⟩
  clear hm
  have hm := l1Many_any ⟨#[116]⟩ 201 w1 (by decide) (by omega)
  go_wp2_with (go_at_call 24; refine hm.mono ?_)
  rintro e w1 ⟨v, hv, rfl, rfl⟩
  clear hm
  have ht' : t.size ≤ 201 := by rw [ht]; show 1 * (20 + x) ≤ 201; omega
  have hv' : v.size ≤ 201 := by rw [hv]; show 1 * 201 ≤ 201; omega
  clear ht hv
  go_wp2_with (go_at_call 23; refine (pick_any B p (k + 1) 12 _ (h1.below ((Below.refl _ _).alloc (Nat.le_refl _) _)) (by omega) (by omega) (by omega)).mono ?_)
  rintro e w2 ⟨y, hy, rfl, h2, g2⟩
  obtain ⟨u, hu, hc⟩ := tab_cell w1 w2 [⟨#[]⟩, ⟨#[48, 49]⟩, ⟨#[45, 48]⟩, ⟨#[49, 48, 48, 48, 48, 48, 49]⟩, ⟨#[49, 50, 51, 52, 53, 54, 55, 56]⟩, ⟨#[120, 32, 121]⟩, ⟨#[67, 111, 114, 101]⟩, ⟨#[109, 97, 121, 98, 101]⟩, t, ⟨#[45]⟩, ⟨#[43, 49]⟩, v] 201 y p (by intro u hu; simp only [List.mem_cons, List.not_mem_nil, or_false] at hu; rcases hu with rfl | rfl | rfl | rfl | rfl | rfl | rfl | rfl | rfl | rfl | rfl | rfl; all_goals first | assumption | decide) hy g2 h1.lt
  go_wp2
  go_ret
  exact ⟨u, k + 1 + 1, hu, by omega, rfl, h2, grown_trans g1 (grown_trans (grown_but (World.grownBy_alloc _ _ _) _) g2)⟩
theorem tab_mem (w1 w2 : World) (l : List ByteArray) (y p : Nat) (hy : y < l.length) (hg : (w1.alloc (.cells (l.map Value.string).toArray 9)).grownBy w2 (some p)) (hp : p ≠ w1.heap.size) :
    ∃ u ∈ l, w2.cell? ⟨w1.heap.size, y, none⟩ = some (.string u) := by
  refine ⟨l[y], List.getElem_mem _, hg.cell ?_ (by simp; omega)⟩
  rw [Lib.cell_of_heap (heap_alloc_new w1 _)]
  simp [hy]
set_option maxHeartbeats 1000000 in
theorem drawRules_any (a : Option Addr) (len cap : Nat) (w : World) (hc : Code w.heap.size w a len cap) :
    Calls Tryd.prog 13 #[.slice a len cap] w fun e w' => ∃ t : ByteArray, e = .returned (.string t) ∧ Below w.heap.size w w' := by
  have b0 := (Below.refl w.heap.size w).alloc (Nat.le_refl _) (.cells ([⟨#[116, 101, 97, 109]⟩, ⟨#[98, 101, 114, 116, 104]⟩, ⟨#[115, 101, 114, 118, 105, 99, 101]⟩, ⟨#[]⟩, ⟨#[110, 111, 110, 101]⟩, ⟨#[84, 101, 97, 109]⟩].map Value.string).toArray 9)
  have z0 : (w.alloc (.cells ([⟨#[116, 101, 97, 109]⟩, ⟨#[98, 101, 114, 116, 104]⟩, ⟨#[115, 101, 114, 118, 105, 99, 101]⟩, ⟨#[]⟩, ⟨#[110, 111, 110, 101]⟩, ⟨#[84, 101, 97, 109]⟩].map Value.string).toArray 9)).heap.size = w.heap.size + 1 := by simp
  have hc1 := hc.below b0 (show w.heap.size ≤ w.heap.size + 1 by omega)
  have HO := l1Open_any (w.heap.size + 1) a len cap (w.alloc (.cells ([⟨#[116, 101, 97, 109]⟩, ⟨#[98, 101, 114, 116, 104]⟩, ⟨#[115, 101, 114, 118, 105, 99, 101]⟩, ⟨#[]⟩, ⟨#[110, 111, 110, 101]⟩, ⟨#[84, 101, 97, 109]⟩].map Value.string).toArray 9)) (by rw [z0]; exact Nat.le_refl _) hc1.1 hc1.2.1 hc1.2.2.1 hc1.2.2.2
  rw [z0] at HO
  clear hc hc1
  go_enter Tryd.func13, Tryd.ntmps13
  go_wp2_with (go_at_call 22; refine HO.mono ?_)
  rintro e w1 ⟨rfl, h1, b1⟩
  go_wp2_with (go_at_call 23; refine (pick_any _ _ 0 6 w1 h1 (by omega) (by omega) (by omega)).mono ?_)
  rintro e w2 ⟨y, hy, rfl, h2, g2⟩
  have g1 : (w.alloc (.cells ([⟨#[116, 101, 97, 109]⟩, ⟨#[98, 101, 114, 116, 104]⟩, ⟨#[115, 101, 114, 118, 105, 99, 101]⟩, ⟨#[]⟩, ⟨#[110, 111, 110, 101]⟩, ⟨#[84, 101, 97, 109]⟩].map Value.string).toArray 9)).grownBy w2 (some (w.heap.size + 1)) := grown_trans (grown_of_below (by rw [z0]; exact b1) _) g2
  obtain ⟨u, _, hc⟩ := tab_mem w w2 [⟨#[116, 101, 97, 109]⟩, ⟨#[98, 101, 114, 116, 104]⟩, ⟨#[115, 101, 114, 118, 105, 99, 101]⟩, ⟨#[]⟩, ⟨#[110, 111, 110, 101]⟩, ⟨#[84, 101, 97, 109]⟩] y _ hy g1 (by omega)
  have z1 := b1.size
  have b2 := below_of_grown (b0.trans (b1.mono (Nat.le_succ _))) (by omega) (Nat.le_succ _) g2
  clear g1 g2 b1 b0 HO
  go_wp2
  go_ret
  exact ⟨u, rfl, b2⟩
end Go.Proofs.YtdcnfbhfpfikjaaDoor
