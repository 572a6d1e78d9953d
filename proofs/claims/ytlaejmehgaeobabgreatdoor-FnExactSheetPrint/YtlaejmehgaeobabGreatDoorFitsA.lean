import Derived.Test.YtlaejmehgaeobabGreatDoorNum
import Derived.Test.YtlaejmehgaeobabGreatDoorBase
import Derived.Deep.RegionWith
namespace Go.Proofs.YtlaejmehgaeobabGreatDoor
open Go.RowKit
open Go.Lib (decDigits)
theorem dec_byte (d : Nat) (h : d < 10) : ((UInt8.ofNat (48 + d)).toNat : Int) = 48 + (d : Int) := by rw [dig_of d h]; omega
theorem conv_kept {w w1 : World} {d : Int} (c : UInt8) (hd : (c.toNat : Int) = d) (b : Below (w.alloc (.cells #[.int .u8 d] 5)).drew.heap.size (w.alloc (.cells #[.int .u8 d] 5)).drew w1) : (convert 74 9 (.slice (some ⟨w.heap.size, 0, none⟩) 1 1)).run Tryz.prog w1 = .ok (.string ⟨#[c]⟩) w1 := by
  subst hd
  exact conv_own _ _ w.heap.size [c] 1 (own_below (World.ownsRow_lit w #[.int .u8 (c.toNat : Int)] 1 (Nat.le_refl _) (by decide) rfl).drew b)
set_option maxHeartbeats 1000000 in
set_option maxRecDepth 100000 in
theorem l2Dec_any (n : Nat) : ∀ (w : World), n ≤ 9999999 → Calls Tryz.prog 159 #[.int .i64 (n : Int)] w fun e w' => e = .returned (.string ⟨(decDigits n).toArray⟩) ∧ Below w.heap.size w w' := by
  induction n using Nat.strongRecOn with
  | _ n ih =>
  intro w hn
  by_cases h : n < 10
  · have hcv := conv_one w (UInt8.ofNat (48 + n))
    rw [dec_byte n h] at hcv
    have hneg : ¬ ((n : Int) < 0) := by omega
    have hlt : (n : Int) < 10 := by omega
    rw [decDigits, dif_pos h]
    go_enter Tryz.func159, Tryz.ntmps159
    go_wp2
    go_ret
    exact ⟨rfl, (Below.refl _ w).alloc (Nat.le_refl _) _⟩
  · have hneg : ¬ ((n : Int) < 0) := by omega
    have hlt : ¬ ((n : Int) < 10) := by omega
    have HI := fun W => ih (n / 10) (by omega) W (by omega)
    rw [show ((n / 10 : Nat) : Int) = (n : Int) / 10 from by omega] at HI
    have hcv := fun W => conv_one W (UInt8.ofNat (48 + n % 10))
    have hby := dec_byte (n % 10) (by omega)
    rw [hby] at hcv
    rw [show ((n % 10 : Nat) : Int) = (n : Int) % 10 from by omega] at hcv hby
    rw [decDigits, dif_neg h]
    have hDl : (decDigits (n / 10)).length ≤ 7 := by rw [Lib.decDigits_length]; exact nDigits_max _ (by omega)
    generalize decDigits (n / 10) = D at HI hDl ⊢
    generalize UInt8.ofNat (48 + n % 10) = c at hcv hby ⊢
    have hcv3 := conv_kept (w := w) _ hby (Below.refl _ _)
    have hw1 : IntKind.i64.wrap ((n : Int) / 10) = (n : Int) / 10 := by rw [IntKind.wrap_i64]; omega
    have hm : (n : Int).tmod 10 = (n : Int) % 10 := Int.tmod_eq_emod_of_nonneg (by omega)
    have hw2 : IntKind.i64.wrap (48 + (n : Int) % 10) = 48 + (n : Int) % 10 := by rw [IntKind.wrap_i64]; omega
    have hw3 : IntKind.u8.wrap (48 + (n : Int) % 10) = 48 + (n : Int) % 10 := by rw [IntKind.wrap_u8]; omega
    go_enter Tryz.func159, Tryz.ntmps159
    go_wp2
    go_region_with (first | (go_at_call 159; refine (HI _).mono ?_; rintro e w1 ⟨rfl, b1⟩; have hcv2 := conv_kept _ hby b1) | (go_at_call 159; refine (HI _).mono ?_; rintro e w1 ⟨rfl, b1⟩))
    all_goals
      go_wp2
      go_ret
      refine ⟨ret_val (congrArg Value.string (cat_bytes D [c])), ?_⟩
      first
        | exact ((Below.refl w.heap.size w).drew.trans b1).alloc b1.size _
        | exact ((Below.refl w.heap.size w).alloc (Nat.le_refl _) _).drew.trans (b1.mono (by simp))
end Go.Proofs.YtlaejmehgaeobabGreatDoor
