import Derived.Test.YtpdahhnjhggocabGreatDoorBun10
import Derived.Test.YtpdahhnjhggocabGreatDoorBun8
import Derived.Test.YtpdahhnjhggocabGreatDoorBun4
import Derived.WalkKit
import Derived.WalkMore
import Derived.WalkSpells
import Derived.WalkLawsBesides
import Derived.LoopTactic
namespace Go.Proofs.YtpdahhnjhggocabGreatDoor
open Go.RowKit
theorem bareB_last {c : UInt8} (h1 : 33 ≤ (c.toNat : Int)) (h2 : (c.toNat : Int) ≤ 126) : ((c.toNat : Int) != 34 && (c.toNat : Int) != 35 && (c.toNat : Int) != 92) = bareB c := by
  by_cases h : (c.toNat ≠ 34 ∧ c.toNat ≠ 35 ∧ c.toNat ≠ 92)
  · rw [bareB_mk (by omega)]; simp; omega
  · rw [bareB_no (by omega)]; simp; omega
theorem plainB_last {c : UInt8} (h1 : 32 ≤ (c.toNat : Int)) (h2 : (c.toNat : Int) ≤ 126) : ((c.toNat : Int) != 34 && (c.toNat : Int) != 92) = plainB c := by
  by_cases h : (c.toNat ≠ 34 ∧ c.toNat ≠ 92)
  · rw [plainB_mk (by omega)]; simp; omega
  · rw [plainB_no (by omega)]; simp; omega
set_option maxHeartbeats 400000 in
theorem l1Bare_any (c : UInt8) (w : World) : Calls Tryz.prog 104 #[.int .u8 (c.toNat : Int)] w fun e w' => e = .returned (.bool (bareB c)) ∧ w' = w := by
  have hc : c.toNat < 256 := c.toNat_lt
  go_enter Tryz.func104, Tryz.ntmps104
  go_wp2
  all_goals
    go_ret
    refine ⟨ret_bool ?_, rfl⟩
    first | exact bareB_last ‹_› ‹_› | exact (bareB_no (by omega)).symm
set_option maxHeartbeats 400000 in
theorem isPlain_any (c : UInt8) (w : World) : Calls Tryz.prog 263 #[.int .u8 (c.toNat : Int)] w fun e w' => e = .returned (.bool (plainB c)) ∧ w' = w := by
  have hc : c.toNat < 256 := c.toNat_lt
  go_enter Tryz.func263, Tryz.ntmps263
  go_wp2
  all_goals
    go_ret
    refine ⟨ret_bool ?_, rfl⟩
    first | exact plainB_last ‹_› ‹_› | exact (plainB_no (by omega)).symm
theorem bare_of_plain {c : UInt8} (hp : plainB c = true) (h : ¬ (c.toNat : Int) = 32) : ((c.toNat : Int) != 35) = bareB c := by
  have := plainB_true hp
  by_cases h5 : c.toNat = 35
  · rw [bareB_no (by omega)]; simp; omega
  · rw [bareB_mk (by omega)]; simp; omega
theorem bare_not_plain {c : UInt8} (hp : plainB c = false) : bareB c = false := by
  apply bareB_no
  intro h
  rw [plainB_mk (by omega)] at hp
  exact Bool.noConfusion hp
set_option maxHeartbeats 400000 in
theorem isBare_any (c : UInt8) (w : World) : Calls Tryz.prog 261 #[.int .u8 (c.toNat : Int)] w fun e w' => e = .returned (.bool (bareB c)) ∧ w' = w := by
  have hc : c.toNat < 256 := c.toNat_lt
  have H := isPlain_any c w
  cases hp : plainB c <;> rw [hp] at H
  · have hb := bare_not_plain hp
    rw [hb]
    go_enter Tryz.func261, Tryz.ntmps261
    go_wp2_with (go_at_call 263; refine H.mono ?_; rintro e w' ⟨rfl, rfl⟩)
    go_ret
    exact ⟨rfl, rfl⟩
  · by_cases h32 : (c.toNat : Int) = 32
    · have hb : bareB c = false := bareB_no (by omega)
      have h32' : ((c.toNat : Int) != 32) = false := by simp [h32]
      rw [hb]
      clear h32
      go_enter Tryz.func261, Tryz.ntmps261
      go_wp2_with (go_at_call 263; refine H.mono ?_; rintro e w' ⟨rfl, rfl⟩)
      all_goals (go_ret; exact ⟨rfl, rfl⟩)
    · have hb := bare_of_plain hp h32
      have h32' : ((c.toNat : Int) != 32) = true := by simp [h32]
      rw [← hb]
      clear hb
      go_enter Tryz.func261, Tryz.ntmps261
      go_wp2_with (go_at_call 263; refine H.mono ?_; rintro e w' ⟨rfl, rfl⟩)
      all_goals (go_ret; exact ⟨rfl, rfl⟩)
end Go.Proofs.YtpdahhnjhggocabGreatDoor
namespace Go.Proofs.YtpdahhnjhggocabGreatDoor
open Go.RowKit
set_option maxHeartbeats 400000 in
theorem clone_any (s : ByteArray) (w : World) (hs : s.size ≤ 1048576) : Calls Tryz.prog 245 #[.string s] w fun e w' => e = .returned (.string s) ∧ Below w.heap.size w w' := by
  go_enter Tryz.func245, Tryz.ntmps245
  go_wp2_with (go_at_call 262; refine (sliteClone s _ (by omega)).mono ?_; rintro e w' ⟨rfl, hb⟩)
  go_ret
  exact ⟨rfl, hb⟩
end Go.Proofs.YtpdahhnjhggocabGreatDoor
