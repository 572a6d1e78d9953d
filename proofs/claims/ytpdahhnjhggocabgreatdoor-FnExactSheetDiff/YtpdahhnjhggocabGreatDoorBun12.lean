import Derived.Test.YtpdahhnjhggocabGreatDoorBun9
import Derived.Test.YtpdahhnjhggocabGreatDoorBun7
import Derived.Test.YtpdahhnjhggocabGreatDoorBun4
import Derived.WalkKit
import Derived.WalkMore
import Derived.WalkSpells
import Derived.WalkLawsBesides
import Derived.LoopTactic
namespace Go.Proofs.YtpdahhnjhggocabGreatDoor
open Go.RowKit
theorem bareB_last {c : UInt8} (h1 : 33 ≤ (c.toNat : Int)) (h2 : (c.toNat : Int) ≤ 126) : ((c.toNat : Int) != 34 && (c.toNat : Int) != 35 && (c.toNat : Int) != 92) = bareB c := by
  by_cases h : (c.toNat ≠ 34 ∧ c.toNat ≠ 35 ∧ c.toNat ≠ 92)
  · rw [bareB_mk (by omega)]; simp; omega
  · rw [bareB_no (by omega)]; simp; omega
theorem plainB_last {c : UInt8} (h1 : 32 ≤ (c.toNat : Int)) (h2 : (c.toNat : Int) ≤ 126) : ((c.toNat : Int) != 34 && (c.toNat : Int) != 92) = plainB c := by
  by_cases h : (c.toNat ≠ 34 ∧ c.toNat ≠ 92)
  · rw [plainB_mk (by omega)]; simp; omega
  · rw [plainB_no (by omega)]; simp; omega
set_option maxHeartbeats 400000 in
theorem l1Bare_any (c : UInt8) (w : World) : Calls Tryz.prog 104 #[.int .u8 (c.toNat : Int)] w fun e w' => e = .returned (.bool (bareB c)) ∧ w' = w := by
  have hc : c.toNat < 256 := c.toNat_lt
  go_enter Tryz.func104, Tryz.ntmps104
  go_wp2
  all_goals
    go_ret
    refine ⟨ret_bool ?_, rfl⟩
    first | exact bareB_last ‹_› ‹_› | exact (bareB_no (by omega)).symm
set_option maxHeartbeats 400000 in
theorem isPlain_any (c : UInt8) (w : World) : Calls Tryz.prog 263 #[.int .u8 (c.toNat : Int)] w fun e w' => e = .returned (.bool (plainB c)) ∧ w' = w := by
  have hc : c.toNat < 256 := c.toNat_lt
  go_enter Tryz.func263, Tryz.ntmps263
  go_wp2
  all_goals
    go_ret
    refine ⟨ret_bool ?_, rfl⟩
    first | exact plainB_last ‹_› ‹_› | exact (plainB_no (by omega)).symm
theorem bare_of_plain {c : UInt8} (hp : plainB c = true) (h : ¬ (c.toNat : Int) = 32) : ((c.toNat : Int) != 35) = bareB c := by
  have := plainB_true hp
  by_cases h5 : c.toNat = 35
  · rw [bareB_no (by omega)]; simp; omega
  · rw [bareB_mk (by omega)]; simp; omega
theorem bare_not_plain {c : UInt8} (hp : plainB c = false) : bareB c = false := by
  apply bareB_no
  intro h
  rw [plainB_mk (by omega)] at hp
  exact Bool.noConfusion hp
set_option maxHeartbeats 400000 in
theorem isBare_any (c : UInt8) (w : World) : Calls Tryz.prog 261 #[.int .u8 (c.toNat : Int)] w fun e w' => e = .returned (.bool (bareB c)) ∧ w' = w := by
  have hc : c.toNat < 256 := c.toNat_lt
  have H := isPlain_any c w
  cases hp : plainB c <;> rw [hp] at H
  · have hb := bare_not_plain hp
    rw [hb]
    go_enter Tryz.func261, Tryz.ntmps261
    go_wp2_with (go_at_call 263; refine H.mono ?_; rintro e w' ⟨rfl, rfl⟩)
    go_ret
    exact ⟨rfl, rfl⟩
  · by_cases h32 : (c.toNat : Int) = 32
    · have hb : bareB c = false := bareB_no (by omega)
      have h32' : ((c.toNat : Int) != 32) = false := by simp [h32]
      rw [hb]
      clear h32
      go_enter Tryz.func261, Tryz.ntmps261
      go_wp2_with (go_at_call 263; refine H.mono ?_; rintro e w' ⟨rfl, rfl⟩)
      all_goals (go_ret; exact ⟨rfl, rfl⟩)
    · have hb := bare_of_plain hp h32
      have h32' : ((c.toNat : Int) != 32) = true := by simp [h32]
      rw [← hb]
      clear hb
      go_enter Tryz.func261, Tryz.ntmps261
      go_wp2_with (go_at_call 263; refine H.mono ?_; rintro e w' ⟨rfl, rfl⟩)
      all_goals (go_ret; exact ⟨rfl, rfl⟩)
end Go.Proofs.YtpdahhnjhggocabGreatDoor
namespace Go.Proofs.YtpdahhnjhggocabGreatDoor
open Go.RowKit
theorem bareL_all (s : ByteArray) (h : s.data.toList.all bareB = true) : (!s.toList.isEmpty) = bareL s.data.toList := by
  unfold bareL; rw [h, ByteArray.toList_eq]; simp
theorem bareL_no (s : ByteArray) (k : Nat) (hk : k < s.size) (h : bareB s[k] = false) : bareL s.data.toList = false := by
  unfold bareL
  have : s.data.toList.all bareB = false := by
    rw [List.all_eq_false]
    exact ⟨s[k], by simp [ByteArray.getElem_eq_getElem_data], by simp [h]⟩
  rw [this]; simp
set_option maxHeartbeats 400000 in
theorem isBareWord_any (s : ByteArray) (w : World) (hs : s.size ≤ 1048576) : Calls Tryz.prog 244 #[.string s] w fun e w' => e = .returned (.bool (bareL s.data.toList)) ∧ w' = w := by
  go_enter Tryz.func244, Tryz.ntmps244
  go_wp2
  go_loop [3, 6] (fun _ c => ∃ k : Nat, k ≤ s.size ∧ c = .int .i64 k ∧ (s.data.toList.take k).all bareB = true) (fun _ c => s.size - (intOf c).toNat)
  case atStart => exact ⟨0, Nat.zero_le _, rfl, by simp⟩
  case round =>
    obtain ⟨k, hk, rfl, hall⟩ := hrel
    have HA : Hid ((s.data.toList.take k).all bareB = true) := hall
    clear hall
    by_cases hlt : k < s.size
    · cases hb : bareB s[k]
      · have HB : Hid (bareL s.data.toList = false) := bareL_no s k hlt hb
        have H := isBare_any s[k] w
        rw [hb] at H
        clear hb
        go_wp2_with (go_at_call 261; refine H.mono ?_; rintro e w' ⟨rfl, rfl⟩)
        go_ret
        exact ⟨ret_bool HB.out.symm, rfl⟩
      · have HB : Hid ((s.data.toList.take (k + 1)).all bareB = true) := by have := all_snoc s k hlt; rw [this, HA.out, hb]; rfl
        have H := isBare_any s[k] w
        rw [hb] at H
        clear hb
        go_wp2_with (go_at_call 261; refine H.mono ?_; rintro e w' ⟨rfl, rfl⟩)
        go_round
        case rel => exact ⟨k + 1, by omega, by go_num, HB.out⟩
        case measure => simp [intOf]; omega
    · have hk2 : k = s.size := by omega
      subst hk2
      have HB : Hid ((!s.toList.isEmpty) = bareL s.data.toList) := bareL_all s (by rw [← take_all s]; exact HA.out)
      go_wp2
      go_ret
      exact ⟨ret_bool HB.out, rfl⟩
set_option maxHeartbeats 400000 in
theorem clone_any (s : ByteArray) (w : World) (hs : s.size ≤ 1048576) : Calls Tryz.prog 245 #[.string s] w fun e w' => e = .returned (.string s) ∧ Below w.heap.size w w' := by
  go_enter Tryz.func245, Tryz.ntmps245
  go_wp2_with (go_at_call 262; refine (sliteClone s _ (by omega)).mono ?_; rintro e w' ⟨rfl, hb⟩)
  go_ret
  exact ⟨rfl, hb⟩
theorem hex_ix (n : Nat) (h : n < (⟨#[48, 49, 50, 51, 52, 53, 54, 55, 56, 57, 97, 98, 99, 100, 101, 102]⟩ : ByteArray).size) : (⟨#[48, 49, 50, 51, 52, 53, 54, 55, 56, 57, 97, 98, 99, 100, 101, 102]⟩ : ByteArray)[n] = hexB n :=
  match n, h with
  | 0, _ => rfl
  | 1, _ => rfl
  | 2, _ => rfl
  | 3, _ => rfl
  | 4, _ => rfl
  | 5, _ => rfl
  | 6, _ => rfl
  | 7, _ => rfl
  | 8, _ => rfl
  | 9, _ => rfl
  | 10, _ => rfl
  | 11, _ => rfl
  | 12, _ => rfl
  | 13, _ => rfl
  | 14, _ => rfl
  | 15, _ => rfl
  | n + 16, h => absurd h (by show ¬ n + 16 < 16; omega)
theorem qb_no {c : UInt8} (h : plainB c = false) : qb c = [92, hexB (c.toNat / 16), hexB (c.toNat % 16)] := by simp [qb, h]
theorem qb_yes {c : UInt8} (h : plainB c = true) : qb c = [c] := by simp [qb, h]
set_option maxHeartbeats 800000 in
theorem writeQuoted_any (B b : Nat) (bs : List Value) (c : UInt8) (w : World) (h : Lib.IsBuilder 98 5 B b bs w) (hlen : bs.length + 3 ≤ 140737488355328) (hBw : B ≤ w.heap.size) :
    Calls Tryz.prog 246 #[.pointer (some ⟨b, 0, none⟩), .int .u8 (c.toNat : Int)] w fun e w' => e = .returned (.tuple #[]) ∧ (Lib.IsBuilder 98 5 B b (bs ++ Lib.byteCells (qb c)) w' ∧ Below B w w') := by
  have hc : c.toNat < 256 := c.toNat_lt
  have H := isPlain_any c w
  cases hp : plainB c <;> rw [hp] at H
  · have HQ : Hid (qb c = [92, hexB (c.toNat / 16), hexB (c.toNat % 16)]) := qb_no hp
    go_enter Tryz.func246, Tryz.ntmps246
    go_wp2_with (go_at_call 263; refine H.mono ?_; rintro e w' ⟨rfl, rfl⟩)
    refine (writeByte B b bs 92 _ h (by omega) hBw).mono ?_
    rintro e w1 ⟨rfl, h1, b1⟩
    have s1 := b1.size
    clear H hp
    go_wp2_with fail
    refine (writeByte B b _ _ _ (Or.inr h1) (by simp; omega) (by omega)).mono ?_
    rintro e w2 ⟨rfl, h2, b2⟩
    have s2 := b2.size
    go_wp2_with fail
    refine (writeByte B b _ _ _ (Or.inr h2) (by simp; omega) (by omega)).mono ?_
    rintro e w3 ⟨rfl, h3, b3⟩
    go_wp2
    go_end0
    refine ⟨rfl, Or.inr ?_, b1.trans (b2.trans b3)⟩
    rw [HQ.out]
    rw [hex_ix, hex_ix] at h3
    simpa [Lib.byteCells] using h3
  · have HQ : Hid (qb c = [c]) := qb_yes hp
    go_enter Tryz.func246, Tryz.ntmps246
    go_wp2_with (go_at_call 263; refine H.mono ?_; rintro e w' ⟨rfl, rfl⟩)
    refine (writeByte B b bs (c.toNat : Int) _ h (by omega) hBw).mono ?_
    rintro e w1 ⟨rfl, h1, b1⟩
    go_wp2
    refine bodyPost_ret (v := .tuple #[]) (by simp [results, Tryz.results246, go_sem]) rfl ⟨rfl, Or.inr ?_, b1⟩
    rw [HQ.out]
    simpa [Lib.byteCells] using h1
end Go.Proofs.YtpdahhnjhggocabGreatDoor
