import Derived.Test.YtpdahhnjhggocaaGreatDoorBun13
import Derived.Deep.RegionHeld3
import Derived.Deep.RegionWith
namespace Go.Proofs.YtpdahhnjhggocaaGreatDoor
open Go.RowKit
set_option maxHeartbeats 400000 in
theorem l1Open_any (B : Nat) (a : Option Addr) (len cap : Nat) (w : World) (hB : B ≤ w.heap.size) (hl : len ≤ 1048576) (hcap : len ≤ cap) (hc2 : cap ≤ 9223372036854775807)
    (hc : len = 0 ∨ ∃ b off, a = some ⟨b, off, none⟩ ∧ b < B ∧ ∀ i, i < len → ∃ z : Nat, z < 256 ∧ w.cell? ⟨b, off + i, none⟩ = some (.int .u8 (z : Int))) :
    Calls Tryz.prog 42 #[.slice a len cap] w fun e w' => e = .returned (.pointer (some ⟨w.heap.size, 0, none⟩)) ∧ Rd B w' w.heap.size 0 ∧ Below w.heap.size w w' := by
  by_cases h : len ≤ 2000
  · have h' : ¬ (2000 : Int) < (len : Int) := by omega
    go_enter Tryz.func42, Tryz.ntmps42
    go_wp2
    go_ret
    refine ⟨rfl, ⟨hB, a, len, cap, heap_alloc_new w _, h, ?_⟩, (Below.refl _ _).alloc (Nat.le_refl _) _⟩
    rcases hc with h0 | ⟨b, off, ha, hb, hcell⟩
    · exact Or.inl h0
    · exact Or.inr ⟨b, off, ha, hb, fun i hi => by obtain ⟨z, hz, hcl⟩ := hcell i hi; exact ⟨z, hz, by rw [((Below.refl w.heap.size w).alloc (Nat.le_refl _) _).cell (by simp; omega)]; exact hcl⟩⟩
  · have h' : (2000 : Int) < (len : Int) := by omega
    rcases hc with h0 | ⟨b, off, rfl, hb, hcell⟩
    · omega
    · go_enter Tryz.func42, Tryz.ntmps42
      go_wp2
      go_ret
      refine ⟨rfl, ⟨hB, _, 2000, cap, heap_alloc_new w _, by omega, Or.inr ⟨b, off, rfl, hb, fun i hi => ?_⟩⟩, (Below.refl _ _).alloc (Nat.le_refl _) _⟩
      obtain ⟨z, hz, hcl⟩ := hcell i (by omega)
      exact ⟨z, hz, by rw [((Below.refl w.heap.size w).alloc (Nat.le_refl _) _).cell (by simp; omega)]; exact hcl⟩
theorem undrew {w w' : World} {row : Option Nat} (h : w.drew.grownBy w' row) : w.grownBy w' row := ⟨h.os, h.tape, h.output, h.size, h.block⟩
theorem tab8 (z : Nat) (hz : z < 8) : ∃ u : ByteArray, u.size ≤ 4 ∧ ([Value.string ⟨#[32]⟩, Value.string ⟨#[10]⟩, Value.string ⟨#[34]⟩, Value.string ⟨#[35]⟩, Value.string ⟨#[92]⟩, Value.string ⟨#[48]⟩, Value.string ⟨#[101, 110, 100, 10]⟩, Value.string ⟨#[120]⟩] : List Value)[z]'hz = .string u :=
  match z, hz with
  | 0, _ => ⟨_, by decide, rfl⟩
  | 1, _ => ⟨_, by decide, rfl⟩
  | 2, _ => ⟨_, by decide, rfl⟩
  | 3, _ => ⟨_, by decide, rfl⟩
  | 4, _ => ⟨_, by decide, rfl⟩
  | 5, _ => ⟨_, by decide, rfl⟩
  | 6, _ => ⟨_, by decide, rfl⟩
  | 7, _ => ⟨_, by decide, rfl⟩
theorem bend_ix (x n : Nat) (hx : x < 256) (hn : n ≤ 1000000) : ∃ i : Nat, i ≤ n ∧ (x : Int) * ((n : Int) + 1) / 256 = (i : Int) ∧ 0 ≤ (x : Int) * ((n : Int) + 1) ∧ (x : Int) * ((n : Int) + 1) ≤ 1000000000 := by
  have h1 : x * (n + 1) ≤ 255 * (n + 1) := Nat.mul_le_mul (by omega) (Nat.le_refl _)
  have e : (x : Int) * ((n : Int) + 1) = ((x * (n + 1) : Nat) : Int) := by rw [Int.natCast_mul]; rfl
  rw [e]
  generalize x * (n + 1) = q at *
  exact ⟨q / 256, by omega, by omega, by omega, by omega⟩
theorem u8_byte (E : Int) : ∃ c : UInt8, IntKind.u8.wrap E = (c.toNat : Int) := by
  refine ⟨UInt8.ofNat ((IntKind.u8.wrap E).toNat), ?_⟩
  rw [IntKind.wrap_u8, UInt8.toNat_ofNat']
  omega
set_option maxHeartbeats 4000000 in
set_option maxRecDepth 100000 in
theorem l1Bend_any (B p k : Nat) (s : ByteArray) (w : World) (h : Rd B w p k) (hk : k ≤ 900000) (hs : s.size ≤ 1000000) :
    Calls Tryz.prog 79 #[.pointer (some ⟨p, 0, none⟩), .string s] w fun e w' => Drawn (2 * s.size + 10) B p w e w' k 3 := by
  go_enter Tryz.func79, Tryz.ntmps79
  go_wp2_with (go_at_call 44; refine (pick_any B p k 256 w h (by omega) (by omega) (by omega)).mono ?_)
  rintro e w1 ⟨x, hx, rfl, h1, g1⟩
  obtain ⟨i, hi, ei, m1, m2⟩ := bend_ix x s.size hx hs
  clear h
  go_wp2_with (go_at_call 44; refine (pick_any B p (k + 1) 5 w1 h1 (by omega) (by omega) (by omega)).mono ?_)
  rintro e w2 ⟨y, hy, rfl, h2, g2⟩
  have g12 := grown_trans g1 g2
  rw [ei]
  clear g1 g2 h1 m1 m2 ei
  have hy5 : y = 0 ∨ y = 1 ∨ y = 2 ∨ y = 3 ∨ y = 4 := by omega
  rcases hy5 with rfl | rfl | rfl | rfl | rfl
  · go_wp2
    go_ret
    exact ⟨_, k + 1 + 1, by simp only [ByteArray.size_extract]; omega, by omega, rfl, h2, g12⟩
  · have q1 : (0 : Int) ≤ (i : Int) := by omega
    have q2 : (i : Int) ≤ (s.size : Int) := by omega
    go_wp2
    go_region_with (first
        | (go_at_call 44; refine (pick_any B p (k + 1 + 1) 8 _ (h2.below (((Below.refl _ w2).alloc (Nat.le_refl _) _).drew)) (by omega) (by omega) (by omega)).mono ?_; rintro e w3 ⟨z, hz, rfl, h3, g3⟩; obtain ⟨u, hu, hc⟩ := tab_cell w2 w3 [⟨#[32]⟩, ⟨#[10]⟩, ⟨#[34]⟩, ⟨#[35]⟩, ⟨#[92]⟩, ⟨#[48]⟩, ⟨#[101, 110, 100, 10]⟩, ⟨#[120]⟩] 4 z p (by decide) hz (undrew g3) h2.lt)
        | (go_at_call 44; refine (pick_any B p (k + 1 + 1) 8 _ (h2.below ((Below.refl _ w2).drew)) (by omega) (by omega) (by omega)).mono ?_; rintro e w3 ⟨z, hz, rfl, h3, g3⟩; obtain ⟨u, hu, hgz⟩ := tab8 z hz))
    all_goals
      go_wp2
      go_ret
      refine ⟨_, k + 1 + 1 + 1, ?_, by omega, rfl, ?_, ?_⟩
      · simp only [ByteArray.size_append, ByteArray.size_extract]; omega
      · first | exact h3 | exact h3.below ((Below.refl _ _).alloc (Nat.le_refl _) _)
      · first | exact grown_trans g12 (grown_trans (grown_but (World.grownBy_alloc _ _ _) _) (undrew g3)) | exact grown_trans g12 (grown_trans (undrew g3) (grown_but (World.grownBy_alloc _ _ _) _))
  · by_cases hlt : i < s.size
    · go_wp2
      go_quiet (fail)
      go_wp2
      go_ret
      exact ⟨_, k + 1 + 1, by simp only [ByteArray.size_append, ByteArray.size_extract]; omega, by omega, rfl, rd_drewN h2 _, grown_drewN g12 _⟩
    · go_wp2
      go_ret
      exact ⟨_, k + 1 + 1, by simp only [ByteArray.size_append, ByteArray.size_extract]; omega, by omega, rfl, h2, g12⟩
  · by_cases hlt : i < s.size
    · have q1 : (0 : Int) ≤ (i : Int) := by omega
      have q2 : (i : Int) < (s.size : Int) := by omega
      go_wp2
      have q3 : IntKind.i64.wrap ((i : Int) + 1) = (i : Int) + 1 := by rw [IntKind.wrap_i64]; omega
      have q4 : (0 : Int) ≤ (i : Int) + 1 := by omega
      have q5 : (i : Int) + 1 ≤ (s.size : Int) := by omega
      have q6 : ((i : Int) + 1).toNat = i + 1 := by omega
      go_region_with (first
        | (go_at_call 44; refine (pick_any B p (k + 1 + 1) 8 _ (h2.below ((Below.refl _ w2).drew)) (by omega) (by omega) (by omega)).mono ?_; rintro e w3 ⟨z, hz, rfl, h3, g3⟩; obtain ⟨cb, hcb⟩ := u8_byte (bits .xor .i64 (IntKind.i64.wrap (s[i].toNat : Int)) (IntKind.i64.wrap (2 ^ min (IntKind.u64.wrap (z : Int)).toNat 64))); have hcv := conv_one w3 cb))
      all_goals
        clear q3
        go_wp2
        go_ret
        exact ⟨_, k + 1 + 1 + 1, by simp only [ByteArray.size_append, ByteArray.size_extract]; have : (⟨#[cb]⟩ : ByteArray).size = 1 := rfl; omega, by omega, rfl, h3.below ((Below.refl _ _).alloc (Nat.le_refl _) _), grown_trans g12 (grown_trans (undrew g3) (grown_but (World.grownBy_alloc _ _ _) _))⟩
    · go_wp2
      go_ret
      exact ⟨_, k + 1 + 1, by simp only [ByteArray.size_append, ByteArray.size_extract]; omega, by omega, rfl, h2, g12⟩
  · go_wp2
    go_ret
    exact ⟨_, k + 1 + 1, by simp only [ByteArray.size_append, ByteArray.size_extract]; omega, by omega, rfl, h2, g12⟩
end Go.Proofs.YtpdahhnjhggocaaGreatDoor
namespace Go.Proofs.YtpdahhnjhggocaaGreatDoor
open Go.RowKit
def Code (B : Nat) (w : World) (a : Option Addr) (len cap : Nat) : Prop :=
  len ≤ 1048576 ∧ len ≤ cap ∧ cap ≤ 9223372036854775807 ∧ (len = 0 ∨ ∃ b off, a = some ⟨b, off, none⟩ ∧ b < B ∧ ∀ i, i < len → ∃ z : Nat, z < 256 ∧ w.cell? ⟨b, off + i, none⟩ = some (.int .u8 (z : Int)))
theorem below_of_grown {B p : Nat} {a w w' : World} (h : Below B a w) (hB : B ≤ w.heap.size) (hp : B ≤ p) (g : w.grownBy w' (some p)) : Below B a w' :=
  h.grown g hB (fun k hk => by simp at hk; omega)
theorem Code.below {B B' : Nat} {w w' : World} {a : Option Addr} {len cap : Nat} (h : Code B w a len cap) (hb : Below B w w') (hB : B ≤ B') : Code B' w' a len cap := by
  refine ⟨h.1, h.2.1, h.2.2.1, ?_⟩
  rcases h.2.2.2 with h0 | ⟨b, off, ha, hb1, hc⟩
  · exact Or.inl h0
  · exact Or.inr ⟨b, off, ha, by omega, fun i hi => by obtain ⟨z, hz, hcl⟩ := hc i hi; exact ⟨z, hz, by rw [hb.cell (by simp; omega)]; exact hcl⟩⟩
end Go.Proofs.YtpdahhnjhggocaaGreatDoor
