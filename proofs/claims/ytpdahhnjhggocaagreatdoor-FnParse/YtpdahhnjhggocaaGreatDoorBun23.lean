import Derived.Test.YtpdahhnjhggocaaGreatDoorBun21
import Derived.Test.YtpdahhnjhggocaaGreatDoorBun16
namespace Go.Proofs.YtpdahhnjhggocaaGreatDoor
open Go.RowKit
set_option maxHeartbeats 1000000 in
theorem l2Word_1 (B p k : Nat) (w : World) (h : Rd B w p k) (hk : k ≤ 900000) :
    Calls Tryz.prog 219 #[.pointer (some ⟨p, 0, none⟩), .int .i64 1] w fun e w' => Drawn 200 B p w e w' k 2 := by
  go_enter Tryz.func219, Tryz.ntmps219
  go_wp2_with (go_at_call 44; refine (pick_any B p k 6 _ (h.below ((Below.refl _ _).alloc (Nat.le_refl _) _)) (by omega) (by omega) (by omega)).mono ?_)
  rintro e w2 ⟨y, hy, rfl, h2, g2⟩
  obtain ⟨u, hu, hc⟩ := tab_cell w w2 [⟨#[48]⟩, ⟨#[49]⟩, ⟨#[50]⟩, ⟨#[55]⟩, ⟨#[49, 48, 48]⟩, ⟨#[49, 48, 48, 48, 48, 48, 48]⟩] 10 y p (by decide) hy g2 h.lt
  go_wp2
  go_ret
  exact ⟨u, k + 1, by omega, by omega, rfl, h2, grown_trans (grown_but (World.grownBy_alloc _ _ _) _) g2⟩
set_option maxHeartbeats 1000000 in
theorem l2Word_2 (B p k : Nat) (w : World) (h : Rd B w p k) (hk : k ≤ 900000) :
    Calls Tryz.prog 219 #[.pointer (some ⟨p, 0, none⟩), .int .i64 2] w fun e w' => Drawn 200 B p w e w' k 2 := by
  go_enter Tryz.func219, Tryz.ntmps219
  go_wp2_with (go_at_call 44; refine (pick_any B p k 5 _ (h.below ((Below.refl _ _).alloc (Nat.le_refl _) _)) (by omega) (by omega) (by omega)).mono ?_)
  rintro e w2 ⟨y, hy, rfl, h2, g2⟩
  obtain ⟨u, hu, hc⟩ := tab_cell w w2 [⟨#[48]⟩, ⟨#[45, 49]⟩, ⟨#[53]⟩, ⟨#[45, 57]⟩, ⟨#[45, 49, 48, 48, 48, 48, 48, 48]⟩] 10 y p (by decide) hy g2 h.lt
  go_wp2
  go_ret
  exact ⟨u, k + 1, by omega, by omega, rfl, h2, grown_trans (grown_but (World.grownBy_alloc _ _ _) _) g2⟩
set_option maxHeartbeats 1000000 in
theorem l2Word_3 (B p k : Nat) (w : World) (h : Rd B w p k) (hk : k ≤ 900000) :
    Calls Tryz.prog 219 #[.pointer (some ⟨p, 0, none⟩), .int .i64 3] w fun e w' => Drawn 200 B p w e w' k 2 := by
  go_enter Tryz.func219, Tryz.ntmps219
  go_wp2_with (go_at_call 44; refine (pick_any B p k 4 _ (h.below ((Below.refl _ _).alloc (Nat.le_refl _) _)) (by omega) (by omega) (by omega)).mono ?_)
  rintro e w2 ⟨y, hy, rfl, h2, g2⟩
  obtain ⟨u, hu, hc⟩ := tab_cell w w2 [⟨#[99, 111, 114, 101]⟩, ⟨#[122]⟩, ⟨#[101, 97, 115, 116]⟩, ⟨#[97, 45, 49]⟩] 10 y p (by decide) hy g2 h.lt
  go_wp2
  go_ret
  exact ⟨u, k + 1, by omega, by omega, rfl, h2, grown_trans (grown_but (World.grownBy_alloc _ _ _) _) g2⟩
set_option maxHeartbeats 1000000 in
theorem l2Word_5 (B p k : Nat) (w : World) (h : Rd B w p k) (hk : k ≤ 900000) :
    Calls Tryz.prog 219 #[.pointer (some ⟨p, 0, none⟩), .int .i64 5] w fun e w' => Drawn 200 B p w e w' k 2 := by
  go_enter Tryz.func219, Tryz.ntmps219
  go_wp2_with (go_at_call 44; refine (pick_any B p k 2 _ (h.below ((Below.refl _ _).alloc (Nat.le_refl _) _)) (by omega) (by omega) (by omega)).mono ?_)
  rintro e w2 ⟨y, hy, rfl, h2, g2⟩
  obtain ⟨u, hu, hc⟩ := tab_cell w w2 [⟨#[121, 101, 115]⟩, ⟨#[110, 111]⟩] 10 y p (by decide) hy g2 h.lt
  go_wp2
  go_ret
  exact ⟨u, k + 1, by omega, by omega, rfl, h2, grown_trans (grown_but (World.grownBy_alloc _ _ _) _) g2⟩
set_option maxHeartbeats 1000000 in
theorem l2Word_6 (B p k : Nat) (w : World) (h : Rd B w p k) (hk : k ≤ 900000) :
    Calls Tryz.prog 219 #[.pointer (some ⟨p, 0, none⟩), .int .i64 6] w fun e w' => Drawn 200 B p w e w' k 2 := by
  go_enter Tryz.func219, Tryz.ntmps219
  go_wp2_with (go_at_call 44; refine (pick_any B p k 3 _ (h.below ((Below.refl _ _).alloc (Nat.le_refl _) _)) (by omega) (by omega) (by omega)).mono ?_)
  rintro e w2 ⟨y, hy, rfl, h2, g2⟩
  obtain ⟨u, hu, hc⟩ := tab_cell w w2 [⟨#[110, 111, 110, 101]⟩, ⟨#[98, 101, 114, 116, 104]⟩, ⟨#[122, 111, 110, 101]⟩] 10 y p (by decide) hy g2 h.lt
  go_wp2
  go_ret
  exact ⟨u, k + 1, by omega, by omega, rfl, h2, grown_trans (grown_but (World.grownBy_alloc _ _ _) _) g2⟩
set_option maxHeartbeats 1000000 in
theorem l2Word_4 (B p k : Nat) (w : World) (h : Rd B w p k) (hk : k ≤ 900000) :
    Calls Tryz.prog 219 #[.pointer (some ⟨p, 0, none⟩), .int .i64 4] w fun e w' => Drawn 200 B p w e w' k 2 := by
  go_enter Tryz.func219, Tryz.ntmps219
  go_wp2_with (go_at_call 243; refine (l1Text_any B p k w h hk).mono ?_)
  rintro e w2 ⟨u, k2, hu, hk2, rfl, h2, g2⟩
  go_wp2
  go_ret
  exact ⟨u, k2, hu, hk2, rfl, h2, g2⟩
theorem l2Word_any (B p k : Nat) (t : Int) (h1 : 1 ≤ t) (h6 : t ≤ 6) (w : World) (h : Rd B w p k) (hk : k ≤ 900000) :
    Calls Tryz.prog 219 #[.pointer (some ⟨p, 0, none⟩), .int .i64 t] w fun e w' => Drawn 200 B p w e w' k 2 := by
  rcases six h1 h6 with rfl | rfl | rfl | rfl | rfl | rfl
  · exact l2Word_1 B p k w h hk
  · exact l2Word_2 B p k w h hk
  · exact l2Word_3 B p k w h hk
  · exact l2Word_4 B p k w h hk
  · exact l2Word_5 B p k w h hk
  · exact l2Word_6 B p k w h hk
end Go.Proofs.YtpdahhnjhggocaaGreatDoor
