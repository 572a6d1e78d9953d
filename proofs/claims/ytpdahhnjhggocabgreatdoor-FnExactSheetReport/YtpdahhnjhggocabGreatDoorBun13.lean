import Derived.Test.YtpdahhnjhggocabGreatDoorBun10
import Derived.Test.YtpdahhnjhggocabGreatDoorBun8
import Derived.Test.YtpdahhnjhggocabGreatDoorBun4
import Derived.WalkKit
import Derived.WalkMore
import Derived.WalkSpells
import Derived.WalkLawsBesides
import Derived.LoopTactic
import Derived.Deep.RegionHeld3
import Derived.Deep.AppendLies
import Derived.Laws.OwnMore
import Derived.Laws.IdiomStrings
import Derived.Laws.BitsLemmas
namespace Go.Proofs.YtpdahhnjhggocabGreatDoor
open Go.RowKit
theorem bareB_last {c : UInt8} (h1 : 33 ≤ (c.toNat : Int)) (h2 : (c.toNat : Int) ≤ 126) : ((c.toNat : Int) != 34 && (c.toNat : Int) != 35 && (c.toNat : Int) != 92) = bareB c := by
 by_cases h : (c.toNat ≠ 34 ∧ c.toNat ≠ 35 ∧ c.toNat ≠ 92)
 ·rw [bareB_mk (by omega)]; simp; omega
 ·rw [bareB_no (by omega)]; simp; omega
theorem plainB_last {c : UInt8} (h1 : 32 ≤ (c.toNat : Int)) (h2 : (c.toNat : Int) ≤ 126) : ((c.toNat : Int) != 34 && (c.toNat : Int) != 92) = plainB c := by
 by_cases h : (c.toNat ≠ 34 ∧ c.toNat ≠ 92)
 ·rw [plainB_mk (by omega)]; simp; omega
 ·rw [plainB_no (by omega)]; simp; omega
set_option maxHeartbeats 400000 in
theorem l1Bare_any (c : UInt8) (w : World) : Calls Tryz.prog 104 #[.int .u8 (c.toNat : Int)] w fun e w' => e = .returned (.bool (bareB c)) ∧ w' = w := by
 have hc : c.toNat < 256 := c.toNat_lt
 go_enter Tryz.func104, Tryz.ntmps104
 go_wp2
 all_goals
  go_ret
  refine ⟨ret_bool ?_, rfl⟩
  first | exact bareB_last ‹_› ‹_› | exact (bareB_no (by omega)).symm
set_option maxHeartbeats 400000 in
theorem isPlain_any (c : UInt8) (w : World) : Calls Tryz.prog 263 #[.int .u8 (c.toNat : Int)] w fun e w' => e = .returned (.bool (plainB c)) ∧ w' = w := by
 have hc : c.toNat < 256 := c.toNat_lt
 go_enter Tryz.func263, Tryz.ntmps263
 go_wp2
 all_goals
  go_ret
  refine ⟨ret_bool ?_, rfl⟩
  first | exact plainB_last ‹_› ‹_› | exact (plainB_no (by omega)).symm
theorem bare_of_plain {c : UInt8} (hp : plainB c = true) (h : ¬ (c.toNat : Int) = 32) : ((c.toNat : Int) != 35) = bareB c := by
 have := plainB_true hp
 by_cases h5 : c.toNat = 35
 ·rw [bareB_no (by omega)]; simp; omega
 ·rw [bareB_mk (by omega)]; simp; omega
theorem bare_not_plain {c : UInt8} (hp : plainB c = false) : bareB c = false := by
 apply bareB_no
 intro h
 rw [plainB_mk (by omega)] at hp
 exact Bool.noConfusion hp
set_option maxHeartbeats 400000 in
theorem isBare_any (c : UInt8) (w : World) : Calls Tryz.prog 261 #[.int .u8 (c.toNat : Int)] w fun e w' => e = .returned (.bool (bareB c)) ∧ w' = w := by
 have hc : c.toNat < 256 := c.toNat_lt
 have H := isPlain_any c w
 cases hp : plainB c <;> rw [hp] at H
 ·have hb := bare_not_plain hp
  rw [hb]
  go_enter Tryz.func261, Tryz.ntmps261
  go_wp2_with (go_at_call 263; refine H.mono ?_; rintro e w' ⟨rfl, rfl⟩)
  go_ret
  exact ⟨rfl, rfl⟩
 ·by_cases h32 : (c.toNat : Int) = 32
  ·have hb : bareB c = false := bareB_no (by omega)
   have h32' : ((c.toNat : Int) != 32) = false := by simp [h32]
   rw [hb]
   clear h32
   go_enter Tryz.func261, Tryz.ntmps261
   go_wp2_with (go_at_call 263; refine H.mono ?_; rintro e w' ⟨rfl, rfl⟩)
   all_goals (go_ret; exact ⟨rfl, rfl⟩)
  ·have hb := bare_of_plain hp h32
   have h32' : ((c.toNat : Int) != 32) = true := by simp [h32]
   rw [← hb]
   clear hb
   go_enter Tryz.func261, Tryz.ntmps261
   go_wp2_with (go_at_call 263; refine H.mono ?_; rintro e w' ⟨rfl, rfl⟩)
   all_goals (go_ret; exact ⟨rfl, rfl⟩)
end Go.Proofs.YtpdahhnjhggocabGreatDoor
namespace Go.Proofs.YtpdahhnjhggocabGreatDoor
open Go.RowKit
theorem bareL_all (s : ByteArray) (h : s.data.toList.all bareB = true) : (!s.toList.isEmpty) = bareL s.data.toList := by
 unfold bareL; rw [h, ByteArray.toList_eq]; simp
theorem bareL_no (s : ByteArray) (k : Nat) (hk : k < s.size) (h : bareB s[k] = false) : bareL s.data.toList = false := by
 unfold bareL
 have : s.data.toList.all bareB = false := by
  rw [List.all_eq_false]
  exact ⟨s[k], by simp [ByteArray.getElem_eq_getElem_data], by simp [h]⟩
 rw [this]; simp
set_option maxHeartbeats 400000 in
theorem isBareWord_any (s : ByteArray) (w : World) (hs : s.size ≤ 1048576) : Calls Tryz.prog 244 #[.string s] w fun e w' => e = .returned (.bool (bareL s.data.toList)) ∧ w' = w := by
 go_enter Tryz.func244, Tryz.ntmps244
 go_wp2
 go_loop [3, 6] (fun _ c => ∃ k : Nat, k ≤ s.size ∧ c = .int .i64 k ∧ (s.data.toList.take k).all bareB = true) (fun _ c => s.size - (intOf c).toNat)
 case atStart => exact ⟨0, Nat.zero_le _, rfl, by simp⟩
 case round =>
  obtain ⟨k, hk, rfl, hall⟩ := hrel
  have HA : Hid ((s.data.toList.take k).all bareB = true) := hall
  clear hall
  by_cases hlt : k < s.size
  ·cases hb : bareB s[k]
   ·have HB : Hid (bareL s.data.toList = false) := bareL_no s k hlt hb
    have H := isBare_any s[k] w
    rw [hb] at H
    clear hb
    go_wp2_with (go_at_call 261; refine H.mono ?_; rintro e w' ⟨rfl, rfl⟩)
    go_ret
    exact ⟨ret_bool HB.out.symm, rfl⟩
   ·have HB : Hid ((s.data.toList.take (k + 1)).all bareB = true) := by have := all_snoc s k hlt; rw [this, HA.out, hb]; rfl
    have H := isBare_any s[k] w
    rw [hb] at H
    clear hb
    go_wp2_with (go_at_call 261; refine H.mono ?_; rintro e w' ⟨rfl, rfl⟩)
    go_round
    case rel => exact ⟨k + 1, by omega, by go_num, HB.out⟩
    case measure => simp [intOf]; omega
  ·have hk2 : k = s.size := by omega
   subst hk2
   have HB : Hid ((!s.toList.isEmpty) = bareL s.data.toList) := bareL_all s (by rw [← take_all s]; exact HA.out)
   go_wp2
   go_ret
   exact ⟨ret_bool HB.out, rfl⟩
set_option maxHeartbeats 400000 in
theorem clone_any (s : ByteArray) (w : World) (hs : s.size ≤ 1048576) : Calls Tryz.prog 245 #[.string s] w fun e w' => e = .returned (.string s) ∧ Below w.heap.size w w' := by
 go_enter Tryz.func245, Tryz.ntmps245
 go_wp2_with (go_at_call 262; refine (sliteClone s _ (by omega)).mono ?_; rintro e w' ⟨rfl, hb⟩)
 go_ret
 exact ⟨rfl, hb⟩
theorem hex_ix (n : Nat) (h : n < (⟨#[48, 49, 50, 51, 52, 53, 54, 55, 56, 57, 97, 98, 99, 100, 101, 102]⟩ : ByteArray).size) : (⟨#[48, 49, 50, 51, 52, 53, 54, 55, 56, 57, 97, 98, 99, 100, 101, 102]⟩ : ByteArray)[n] = hexB n :=
 match n, h with
 | 0, _ => rfl
 | 1, _ => rfl
 | 2, _ => rfl
 | 3, _ => rfl
 | 4, _ => rfl
 | 5, _ => rfl
 | 6, _ => rfl
 | 7, _ => rfl
 | 8, _ => rfl
 | 9, _ => rfl
 | 10, _ => rfl
 | 11, _ => rfl
 | 12, _ => rfl
 | 13, _ => rfl
 | 14, _ => rfl
 | 15, _ => rfl
 | n + 16, h => absurd h (by show ¬ n + 16 < 16; omega)
theorem qb_no {c : UInt8} (h : plainB c = false) : qb c = [92, hexB (c.toNat / 16), hexB (c.toNat % 16)] := by simp [qb, h]
theorem qb_yes {c : UInt8} (h : plainB c = true) : qb c = [c] := by simp [qb, h]
set_option maxHeartbeats 800000 in
theorem writeQuoted_any (B b : Nat) (bs : List Value) (c : UInt8) (w : World) (h : Lib.IsBuilder 98 5 B b bs w) (hlen : bs.length + 3 ≤ 140737488355328) (hBw : B ≤ w.heap.size) :
  Calls Tryz.prog 246 #[.pointer (some ⟨b, 0, none⟩), .int .u8 (c.toNat : Int)] w fun e w' => e = .returned (.tuple #[]) ∧ (Lib.IsBuilder 98 5 B b (bs ++ Lib.byteCells (qb c)) w' ∧ Below B w w') := by
 have hc : c.toNat < 256 := c.toNat_lt
 have H := isPlain_any c w
 cases hp : plainB c <;> rw [hp] at H
 ·have HQ : Hid (qb c = [92, hexB (c.toNat / 16), hexB (c.toNat % 16)]) := qb_no hp
  go_enter Tryz.func246, Tryz.ntmps246
  go_wp2_with (go_at_call 263; refine H.mono ?_; rintro e w' ⟨rfl, rfl⟩)
  refine (writeByte B b bs 92 _ h (by omega) hBw).mono ?_
  rintro e w1 ⟨rfl, h1, b1⟩
  have s1 := b1.size
  clear H hp
  go_wp2_with fail
  refine (writeByte B b _ _ _ (Or.inr h1) (by simp; omega) (by omega)).mono ?_
  rintro e w2 ⟨rfl, h2, b2⟩
  have s2 := b2.size
  go_wp2_with fail
  refine (writeByte B b _ _ _ (Or.inr h2) (by simp; omega) (by omega)).mono ?_
  rintro e w3 ⟨rfl, h3, b3⟩
  go_wp2
  go_end0
  refine ⟨rfl, Or.inr ?_, b1.trans (b2.trans b3)⟩
  rw [HQ.out]
  rw [hex_ix, hex_ix] at h3
  simpa [Lib.byteCells] using h3
 ·have HQ : Hid (qb c = [c]) := qb_yes hp
  go_enter Tryz.func246, Tryz.ntmps246
  go_wp2_with (go_at_call 263; refine H.mono ?_; rintro e w' ⟨rfl, rfl⟩)
  refine (writeByte B b bs (c.toNat : Int) _ h (by omega) hBw).mono ?_
  rintro e w1 ⟨rfl, h1, b1⟩
  go_wp2
  refine bodyPost_ret (v := .tuple #[]) (by simp [results, Tryz.results246, go_sem]) rfl ⟨rfl, Or.inr ?_, b1⟩
  rw [HQ.out]
  simpa [Lib.byteCells] using h1
end Go.Proofs.YtpdahhnjhggocabGreatDoor
namespace Go.Proofs.YtpdahhnjhggocabGreatDoor
open Go.RowKit
theorem wordL_yes {l : List UInt8} (h : bareL l = true) : wordL l = l := by simp [wordL, h]
theorem wordL_no {l : List UInt8} (h : bareL l = false) : wordL l = quoteL l := by simp [wordL, h]
set_option maxHeartbeats 1000000 in
theorem implWord_any (s : ByteArray) (w : World) (hs : s.size ≤ 1048576) : Calls Tryz.prog 206 #[.string s] w fun e w' => e = .returned (.string ⟨(wordL s.data.toList).toArray⟩) ∧ Below w.heap.size w w' := by
 have H := isBareWord_any s w hs
 cases hb : bareL s.data.toList <;> rw [hb] at H
 ·rw [wordL_no hb]
  clear hb
  have hf := Lib.fresh_isBuilder 98 5 w
  go_enter Tryz.func206, Tryz.ntmps206
  go_wp2_with (go_at_call 244; refine H.mono ?_; rintro e w' ⟨rfl, rfl⟩)
  refine (writeByte _ _ _ _ _ hf (by simp) (by simp)).mono ?_
  rintro e w1 ⟨rfl, h1, b1⟩
  have b1' : Below w'.heap.size w' w1 := ((Below.refl _ _).alloc (Nat.le_refl _) _).trans b1
  clear hf b1 H
  go_wp2_with fail
  go_loopw [4, 12] (fun _ c wr => ∃ k : Nat, k ≤ s.size ∧ c = .int .i64 k ∧ Lib.IsBuilder 98 5 w'.heap.size w'.heap.size (Lib.byteCells (34 :: (s.data.toList.take k).flatMap qb)) wr ∧ Below w'.heap.size w' wr) (fun _ c _ => s.size - (intOf c).toNat)
  case atStart => exact ⟨0, Nat.zero_le _, rfl, Or.inr (by simpa [Lib.byteCells] using h1), b1'⟩
  case round =>
   obtain ⟨k, hk, rfl, hI, hbw⟩ := hrel
   have hsz := hbw.size
   have hfl := flat_len (s.data.toList.take k)
   have hln : (s.data.toList.take k).length ≤ k := List.length_take_le _ _
   by_cases hlt : k < s.size
   ·have HS : Hid ((s.data.toList.take (k + 1)).flatMap qb = (s.data.toList.take k).flatMap qb ++ qb s[k]) := flat_snoc s k hlt
    go_wp2_with (go_at_call 246; refine (writeQuoted_any _ _ _ s[k] _ hI (by rw [Lib.byteCells_length, List.length_cons]; omega) (by omega)).mono ?_; rintro e w2 ⟨rfl, h2, b2⟩)
    go_roundw
    case rel =>
     refine ⟨k + 1, by omega, by go_num, ?_, hbw.trans b2⟩
     rw [HS.out, ← List.cons_append, Lib.byteCells_append]; exact h2
    case measure => simp [intOf]; omega
   ·have hk2 : k = s.size := by omega
    subst hk2
    go_wp2_with fail
    refine (writeByte _ _ _ _ _ hI (by rw [Lib.byteCells_length, List.length_cons]; omega) (by omega)).mono ?_
    rintro e w2 ⟨rfl, h2, b2⟩
    have hs2 := b2.size
    go_wp2_with fail
    have h3 : Lib.IsBuilder 98 5 w'.heap.size w'.heap.size (Lib.byteCells (quoteL s.data.toList)) w2 := by
     rw [take_all s] at h2; refine Or.inr ?_
     simpa [quoteL, Lib.byteCells] using h2
    refine (builderString _ _ _ _ h3 (by omega)).mono ?_
    rintro e w3 ⟨rfl, b3⟩
    go_wp2
    go_ret
    exact ⟨rfl, hbw.trans (b2.trans b3)⟩
 ·rw [wordL_yes hb]
  clear hb
  go_enter Tryz.func206, Tryz.ntmps206
  go_wp2_with (first | (go_at_call 244; refine H.mono ?_; rintro e w' ⟨rfl, rfl⟩) | (go_at_call 245; refine (clone_any s _ hs).mono ?_; rintro e w1 ⟨rfl, hb⟩))
  go_ret
  exact ⟨rfl, hb⟩
end Go.Proofs.YtpdahhnjhggocabGreatDoor
namespace Go.Proofs.YtpdahhnjhggocabGreatDoor
open Go.RowKit
theorem info5s : (Tryz.prog.info? 5).map (fun i => (i.zero, i.size, i.bytes)) = some (some (.int .u8 0), 1, 1) := by kernel_rfl
def bareTo (s : ByteArray) (k : Nat) : Bool := decide (0 < (s.size : Int)) && (s.data.toList.take k).all bareB
theorem bareTo_zero (s : ByteArray) : decide (0 < s.size) = bareTo s 0 := by simp [bareTo]
theorem bareTo_end (s : ByteArray) : bareTo s s.size = bareL s.data.toList := by
 unfold bareTo bareL; rw [take_all]
 have : decide (0 < (s.size : Int)) = !s.data.toList.isEmpty := by
  rw [Lib.size_eq]; cases s.data.toList <;> simp
 rw [this]
theorem bareTo_succ (s : ByteArray) (k : Nat) (h : k < s.size) : bareTo s (k + 1) = (bareTo s k && bareB s[k]) := by
 unfold bareTo; rw [all_snoc s k h, Bool.and_assoc]
theorem news1s (w : World) (x : Value) : ∀ j u, [x][j]? = some u → (w.alloc (.cells #[x] 5)).cell? ((⟨w.heap.size, 0, none⟩ : Addr).add j) = some u :=
 World.news_of_block (cs := #[x]) (t := 5) (fr := (0, 0)) (heap_alloc_new w _)
theorem conv_row (w1 : World) (g cap n B : Nat) (l : List UInt8) (h : w1.ownsRow B 5 1 (.slice (some ⟨g, 0, none⟩) (n + 1) cap) (n + 1) (Lib.byteCells l ++ [.int .u8 34])) :
  (convert 93 9 (.slice (some ⟨g, 0, none⟩) (n + 1) cap)).run Tryz.prog w1 = .ok (.string ⟨(l ++ [34]).toArray⟩) w1 := by
 have hlen : (l ++ [34]).length = n + 1 := by have := h.1; simpa [Lib.byteCells_length] using this
 have e : Lib.byteCells l ++ [.int .u8 34] = Lib.byteCells (l ++ [34]) := by rw [Lib.byteCells_append]; rfl
 rw [e] at h
 rw [← hlen]
 refine run_convert_bytes_back w1 93 9 5 ⟨g, 0, none⟩ cap (l ++ [34]) Tryz.underlying93 Tryz.underlying5 Tryz.underlying9 fun j hj => ?_
 refine h.cells rfl j _ ?_
 simp only [Lib.byteCells, List.getElem?_map, List.getElem?_eq_getElem hj]; rfl
theorem hex_run (W : World) (i : Int) (n : Nat) (hi : i = (n : Int)) (h : n < 16) : (Instr.index 9 (.string ⟨#[48, 49, 50, 51, 52, 53, 54, 55, 56, 57, 97, 98, 99, 100, 101, 102]⟩) (.int .u8 i)).run Tryz.prog W = .ok (.int .u8 ((hexB n).toNat : Int)) W := by
 subst hi
 rw [run_index_string W 9 ⟨#[48, 49, 50, 51, 52, 53, 54, 55, 56, 57, 97, 98, 99, 100, 101, 102]⟩ .u8 (n : Int) Tryz.underlying9]
 rw [dif_pos ⟨by omega, by show (n : Int) < 16; omega⟩]
 rw [← hex_ix n h]; rfl
theorem flat_step_yes (s : ByteArray) (k : Nat) (h : k < s.size) (l : List UInt8) (hl : l = 34 :: (s.data.toList.take k).flatMap qb) (hp : plainB s[k] = true) : l ++ [s[k]] = 34 :: (s.data.toList.take (k + 1)).flatMap qb := by
 rw [flat_snoc s k h, hl, qb_yes hp]; rfl
theorem flat_step_no (s : ByteArray) (k : Nat) (h : k < s.size) (l : List UInt8) (hl : l = 34 :: (s.data.toList.take k).flatMap qb) (hp : plainB s[k] = false) : l ++ [92, hexB (s[k].toNat / 16), hexB (s[k].toNat % 16)] = 34 :: (s.data.toList.take (k + 1)).flatMap qb := by
 rw [flat_snoc s k h, hl, qb_no hp]; rfl
set_option maxHeartbeats 1000000 in
set_option maxRecDepth 100000 in
theorem specWord_any (s : ByteArray) (w : World) (hs : s.size ≤ 1048576) : Calls Tryz.prog 128 #[.string s] w fun e w' => e = .returned (.string ⟨(wordL s.data.toList).toArray⟩) ∧ Below w.heap.size w w' := by
 obtain ⟨i0, hi, hz0, hz1, hz2⟩ := info_parts info5s
 have HE : Hid (bareTo s s.size = bareL s.data.toList) := bareTo_end s
 have HZ : Hid (decide (0 < s.size) = bareTo s 0) := bareTo_zero s
 go_enter Tryz.func128, Tryz.ntmps128
 go_wp2
 go_loop [3, 4] (fun b i => ∃ (k : Nat) (bb : Bool), k ≤ s.size ∧ i = .int .i64 k ∧ b = .bool bb ∧ Hid (bb = bareTo s k)) (fun _ i => s.size - (intOf i).toNat)
 case atStart => exact ⟨0, _, Nat.zero_le _, rfl, rfl, HZ⟩
 case round =>
  obtain ⟨k, bb, hk, rfl, rfl, hbb⟩ := hrel
  by_cases hlt : k < s.size
  ·have HS : Hid (bareTo s (k + 1) = (bareTo s k && bareB s[k])) := bareTo_succ s k hlt
   cases bb
   ·go_wp2
    go_round
    case rel => exact ⟨k + 1, false, by omega, by go_num, rfl, by show _ = _; rw [HS.out, ← hbb.out]; rfl⟩
    case measure => simp [intOf]; omega
   ·go_wp2_with (go_at_call 104; refine (l1Bare_any s[k] _).mono ?_; rintro e w' ⟨rfl, rfl⟩)
    go_round
    case rel => exact ⟨k + 1, bareB s[k], by omega, by go_num, rfl, by show _ = _; rw [HS.out, ← hbb.out]; rfl⟩
    case measure => simp [intOf]; omega
  ·have hk2 : k = s.size := by omega
   subst hk2
   rw [HE.out] at hbb
   have hbb' := hbb.out
   clear hbb HE HZ
   cases bb
   ·have HW : Hid (wordL s.data.toList = quoteL s.data.toList) := by show _ = _; simp [wordL, ← hbb']
    clear hbb'
    go_wp2
    go_loopw [5, 7] (fun v i wr => ∃ (k n : Nat) (l : List UInt8), k ≤ s.size ∧ n ≤ 3 * k + 1 ∧ i = .int .i64 k ∧ wr.ownsRow w.heap.size 5 1 v n (Lib.byteCells l) ∧ Below w.heap.size w wr ∧ Hid (l = 34 :: (s.data.toList.take k).flatMap qb)) (fun _ i _ => s.size - (intOf i).toNat)
    case atStart => exact ⟨0, 1, [34], Nat.zero_le _, by omega, rfl, World.ownsRow_lit w #[.int .u8 34] 1 (Nat.le_refl _) (by decide) rfl, (Below.refl _ _).alloc (Nat.le_refl _) _, rfl⟩
    case round =>
     obtain ⟨k, n, l, hk, hn, rfl, hown, hbw, hl⟩ := hrel
     have hsz := hbw.size
     by_cases hlt : k < s.size
     ·cases hp : plainB s[k]
      ·have hp' : ¬ (32 ≤ s[k].toNat ∧ s[k].toNat ≤ 126 ∧ s[k].toNat ≠ 34 ∧ s[k].toNat ≠ 92) := fun h => by rw [plainB_mk h] at hp; exact Bool.noConfusion hp
       have HL : Hid (l ++ [92, hexB (s[k].toNat / 16), hexB (s[k].toNat % 16)] = 34 :: (s.data.toList.take (k + 1)).flatMap qb) := flat_step_no s k hlt l hl.out hp
       clear hp
       have hc : s[k].toNat < 256 := s[k].toNat_lt
       have q1 : IntKind.u8.wrap ((s[k].toNat : Int) / 16) = (s[k].toNat : Int) / 16 := wraps_u8 _ (by omega) (by omega)
       have q2 : (s[k].toNat : Int).tmod 16 = (s[k].toNat : Int) % 16 := Int.tmod_eq_emod_of_nonneg (by omega)
       have q3 : (0 : Int) ≤ (k : Int) := by omega
       have q4 : (k : Int) < (s.size : Int) := by omega
       have q5 : (0 : Int) ≤ (s[k].toNat : Int) / 16 := by omega
       have q6 : (s[k].toNat : Int) / 16 < 16 := by omega
       have q7 : (0 : Int) ≤ (s[k].toNat : Int) % 16 := by omega
       have q8 : (s[k].toNat : Int) % 16 < 16 := by omega
       have x1 := fun W => hex_run W ((s[k].toNat : Int) / 16) (s[k].toNat / 16) (by omega) (by omega)
       have x2 := fun W => hex_run W ((s[k].toNat : Int) % 16) (s[k].toNat % 16) (by omega) (by omega)
       have hcase : (s[k].toNat : Int) < 32 ∨ (32 ≤ (s[k].toNat : Int) ∧ 126 < (s[k].toNat : Int)) ∨ (32 ≤ (s[k].toNat : Int) ∧ (s[k].toNat : Int) ≤ 126 ∧ ((s[k].toNat : Int) != 34) = false) ∨ (32 ≤ (s[k].toNat : Int) ∧ (s[k].toNat : Int) ≤ 126 ∧ ((s[k].toNat : Int) != 34) = true ∧ ((s[k].toNat : Int) != 92) = false) := by
        simp only [bne_iff_ne, bne_eq_false_iff_eq]; omega
       clear hp' hl
       rcases hcase with p1 | ⟨p1, p2⟩ | ⟨p1, p2, p3⟩ | ⟨p1, p2, p3, p4⟩
       all_goals
        go_wp2
        go_region_held3 (fun _ => True) (first | trivial | exact True.intro)
         ((refine step_append_lies _ (by rfl) _ _ _ (by rfl) w.heap.size 5 i0 (.int .u8 0) 1 1 Tryz.underlying93 hi hz0 hz1 hz2 rfl (by decide) u5 n (Lib.byteCells l) (by rfl) ((hown.alloc _).drew)
            ⟨wr.heap.size, 0, none⟩ 3 3 [.int .u8 92, .int .u8 ((hexB (s[k].toNat / 16)).toNat : Int), .int .u8 ((hexB (s[k].toNat % 16)).toNat : Int)] (by rfl) (by rfl) (World.news_of_block (cs := #[.int .u8 92, .int .u8 ((hexB (s[k].toNat / 16)).toNat : Int), .int .u8 ((hexB (s[k].toNat % 16)).toNat : Int)]) (t := 5) (fr := (0, 0)) (heap_alloc_new wr _)) (by simp [Value.oneCell'])
            (by omega) (by unfold maxLen; omega) (by omega) (by simp; omega) (wr.heap.size + 1) (by simp) ?_; intro g cap w1 hown1 hgrow hat hlt1))
        all_goals
         go_wp2
         go_roundw
         case rel =>
          refine ⟨k + 1, n + 3, _, by omega, by omega, by go_num, ?_, ((hbw.alloc (by omega) _).drew).grown hgrow (by simp; omega) (fun k hk => (hown.lt k hk).1), HL⟩
          rw [Lib.byteCells_append]; exact hown1
         case measure => simp [intOf]; omega
      ·have hp' := plainB_true hp
       have HL : Hid (l ++ [s[k]] = 34 :: (s.data.toList.take (k + 1)).flatMap qb) := flat_step_yes s k hlt l hl.out hp
       clear hp
       have p1 : 32 ≤ (s[k].toNat : Int) := by omega
       have p2 : (s[k].toNat : Int) ≤ 126 := by omega
       have p3 : ((s[k].toNat : Int) != 34) = true := by rw [bne_iff_ne]; omega
       have p4 : ((s[k].toNat : Int) != 92) = true := by rw [bne_iff_ne]; omega
       clear hp'
       go_wp2_with (at_builtin; refine wpList_append_lies _ rfl _ _ 93 rfl w.heap.size 5 i0 (.int .u8 0) 1 1 Tryz.underlying93 hi hz0 hz1 hz2 rfl (by decide) _ n _ rfl (hown.alloc _) ⟨wr.heap.size, 0, none⟩ 1 1 [.int .u8 (s[k].toNat : Int)] rfl rfl (news1s wr _) ?c2 (by decide) ?c3 ?c4 ?c5 (wr.heap.size + 1) (by simp) ?_)
       case c2 => intro u hu; simp at hu; subst hu; rfl
       case c3 => unfold maxLen; omega
       case c4 => omega
       case c5 => simp; omega
       intro g cap w1 hown1 hgrow hat hlt1
       go_wp2
       go_roundw
       case rel =>
        refine ⟨k + 1, n + 1, l ++ [s[k]], by omega, by omega, by go_num, ?_, (hbw.alloc (by omega) _).grown hgrow (by simp; omega) (fun k hk => (hown.lt k hk).1), HL⟩
        rw [Lib.byteCells_append]; exact hown1
       case measure => simp [intOf]; omega
     ·have hk2 : k = s.size := by omega
      subst hk2
      go_wp2_with (at_builtin; refine wpList_append_lies _ rfl _ _ 93 rfl w.heap.size 5 i0 (.int .u8 0) 1 1 Tryz.underlying93 hi hz0 hz1 hz2 rfl (by decide) _ n _ rfl (hown.alloc _) ⟨wr.heap.size, 0, none⟩ 1 1 [.int .u8 34] rfl rfl (news1s wr _) ?c2 (by decide) ?c3 ?c4 ?c5 (wr.heap.size + 1) (by simp) ?_)
      case c2 => intro u hu; simp at hu; subst hu; rfl
      case c3 => unfold maxLen; omega
      case c4 => omega
      case c5 => simp; omega
      intro g cap w1 hown1 hgrow hat hlt1
      have hcv := conv_row w1 g cap n w.heap.size l hown1
      go_wp2
      go_ret
      refine ⟨ret_str ?_, (hbw.alloc (by omega) _).grown hgrow (by simp; omega) (fun k hk => (hown.lt k hk).1)⟩
      rw [HW.out, hl.out, take_all]; rfl
   ·have HW : Hid (wordL s.data.toList = s.data.toList) := by show _ = _; simp [wordL, ← hbb']
    clear hbb'
    go_wp2
    go_ret
    exact ⟨ret_str HW.out.symm, Below.refl _ _⟩
end Go.Proofs.YtpdahhnjhggocabGreatDoor
