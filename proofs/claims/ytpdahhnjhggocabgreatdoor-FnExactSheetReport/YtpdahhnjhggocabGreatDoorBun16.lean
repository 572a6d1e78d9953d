import Derived.Test.YtpdahhnjhggocabGreatDoorBun13
import Derived.Test.YtpdahhnjhggocabGreatDoorBun10
import Derived.Test.YtpdahhnjhggocabGreatDoorBun7
import Derived.LoopTactic
import Derived.Deep.RegionHeld3
import Derived.Deep.AppendLies
import Derived.Laws.OwnMore
import Derived.Laws.IdiomStrings
import Derived.Laws.BytesArg
import Derived.Deep.QuietTactic
import Derived.BigQuiet
import Derived.WalkSmall
import Derived.Laws.BitsLemmas
namespace Go.Proofs.YtpdahhnjhggocabGreatDoor
open Go.RowKit
def hexI (c : UInt8) : Int := if hexV c < 16 then (hexV c : Int) else -1
theorem hexV_dig {c : UInt8} (h1 : 48 ≤ c.toNat) (h2 : c.toNat ≤ 57) : hexV c = c.toNat - 48 := by simp [hexV, h1, h2]
theorem hexV_let {c : UInt8} (h1 : 97 ≤ c.toNat) (h2 : c.toNat ≤ 102) : hexV c = c.toNat - 87 := by
 unfold hexV; rw [if_neg (by omega), if_pos (by omega)]
theorem hexV_no {c : UInt8} (h1 : ¬ (48 ≤ c.toNat ∧ c.toNat ≤ 57)) (h2 : ¬ (97 ≤ c.toNat ∧ c.toNat ≤ 102)) : hexV c = 16 := by
 unfold hexV; rw [if_neg h1, if_neg h2]
theorem hexI_dig {c : UInt8} (h1 : 48 ≤ c.toNat) (h2 : c.toNat ≤ 57) : hexI c = (c.toNat : Int) - 48 := by
 unfold hexI; rw [hexV_dig h1 h2, if_pos (by omega)]; omega
theorem hexI_let {c : UInt8} (h1 : 97 ≤ c.toNat) (h2 : c.toNat ≤ 102) : hexI c = (c.toNat : Int) - 97 + 10 := by
 unfold hexI; rw [hexV_let h1 h2, if_pos (by omega)]; omega
theorem hexI_no {c : UInt8} (h1 : ¬ (48 ≤ c.toNat ∧ c.toNat ≤ 57)) (h2 : ¬ (97 ≤ c.toNat ∧ c.toNat ≤ 102)) : hexI c = -1 := by
 unfold hexI; rw [hexV_no h1 h2, if_neg (by omega)]
set_option maxHeartbeats 400000 in
theorem l1Hex_any (c : UInt8) (w : World) : Calls Tryz.prog 171 #[.int .u8 (c.toNat : Int)] w fun e w' => e = .returned (.int .i64 (hexI c)) ∧ w' = w := by
 have hc : c.toNat < 256 := c.toNat_lt
 go_enter Tryz.func171, Tryz.ntmps171
 go_wp2
 all_goals
  go_ret
  refine ⟨ret_int ?_, rfl⟩
  first | exact (hexI_no (by omega) (by omega)).symm | (rw [hexI_dig (by omega) (by omega)]; done) | (rw [hexI_let (by omega) (by omega)]; done) | (rw [hexI_dig (by omega) (by omega)]; go_num) | (rw [hexI_let (by omega) (by omega)]; go_num)
theorem end_last (c : UInt8) : (((c.toNat : Int) == 32) || ((c.toNat : Int) == 35)) = decide (c.toNat = 32 ∨ c.toNat = 35) := by
 rw [Bool.eq_iff_iff]; simp; omega
set_option maxHeartbeats 400000 in
theorem endsWord_any (t : ByteArray) (w : World) (hs : t.size ≤ 1048576) : Calls Tryz.prog 257 #[.string t] w fun e w' => e = .returned (.bool (endOk t.data.toList)) ∧ w' = w := by
 by_cases h0 : t.size = 0
 ·have ht : t = ⟨#[]⟩ := by apply ByteArray.ext; exact Array.eq_empty_of_size_eq_zero h0
  subst ht
  go_enter Tryz.func257, Tryz.ntmps257
  go_wp2
  go_ret
  exact ⟨rfl, rfl⟩
 ·have hp : (0 : Int) < (t.size : Int) := by omega
  have hp' : 0 < t.size := by omega
  have hne : t.toList.isEmpty = false := by rw [ByteArray.toList_eq]; cases h : t.data.toList with | nil => exact absurd (by rw [Lib.size_eq, h]; rfl) h0 | cons _ _ => rfl
  have HE : Hid (endOk t.data.toList = decide (t[0].toNat = 32 ∨ t[0].toNat = 35)) := by
   show _ = _
   have := drop_cons t 0 hp'
   rw [List.drop_zero] at this; rw [this]; rfl
  go_enter Tryz.func257, Tryz.ntmps257
  go_wp2
  all_goals
   go_ret
   refine ⟨ret_bool ?_, rfl⟩
   rw [HE.out]
   first | exact (decide_eq_true (by omega)).symm | exact end_last t[0]
def qB : List UInt8 → Option (UInt8 × Nat)
 | [] => none
 | c :: r => if plainB c = true then some (c, 1) else if c.toNat = 92 then (match r with | a :: b :: _ => if hexV a < 16 ∧ hexV b < 16 then some (UInt8.ofNat (16 * hexV a + hexV b), 3) else none | _ => none) else none
theorem list3 (t : ByteArray) (h : 2 < t.size) : t.data.toList = t[0] :: t[1] :: t[2] :: t.data.toList.drop 3 := by
 have h0 := drop_cons t 0 (by omega); have h1 := drop_cons t 1 (by omega); have h2 := drop_cons t 2 (by omega)
 rw [List.drop_zero] at h0; exact h0.trans (congrArg _ (h1.trans (congrArg _ h2)))
theorem list1 (t : ByteArray) (h : 0 < t.size) : t.data.toList = t[0] :: t.data.toList.drop 1 := by
 have h0 := drop_cons t 0 h
 rw [List.drop_zero] at h0; exact h0
theorem qB_plain (t : ByteArray) (h : 0 < t.size) (hp : plainB t[0] = true) : qB t.data.toList = some (t[0], 1) := by
 rw [list1 t h]; simp [qB, hp]
theorem qB_other (t : ByteArray) (h : 0 < t.size) (hp : plainB t[0] = false) (h92 : t[0].toNat ≠ 92) : qB t.data.toList = none := by
 rw [list1 t h]; simp [qB, hp, h92]
theorem qB_short (t : ByteArray) (h : 0 < t.size) (hp : plainB t[0] = false) (h3 : t.size < 3) : qB t.data.toList = none := by
 have hl : (t.data.toList.drop 1).length ≤ 1 := by simp; omega
 rw [list1 t h]
 match t.data.toList.drop 1, hl with
 | [], _ => simp [qB, hp]
 | [_], _ => simp [qB, hp]
theorem qB_hex (t : ByteArray) (h : 2 < t.size) (h92 : t[0].toNat = 92) : qB t.data.toList = if hexV t[1] < 16 ∧ hexV t[2] < 16 then some (UInt8.ofNat (16 * hexV t[1] + hexV t[2]), 3) else none := by
 have hp : plainB t[0] = false := plainB_no (by omega)
 rw [list3 t h]; simp [qB, hp, h92]
theorem indexHex (c : UInt8) : Lib.indexByte [48, 49, 50, 51, 52, 53, 54, 55, 56, 57, 97, 98, 99, 100, 101, 102] c = hexI c := by
 have h : ∀ n, n < 256 → Lib.indexByte [48, 49, 50, 51, 52, 53, 54, 55, 56, 57, 97, 98, 99, 100, 101, 102] n.toUInt8 = hexI n.toUInt8 := by decide +kernel
 have := h c.toNat c.toNat_lt
 simpa using this
theorem indexHex_any (c : UInt8) (w : World) : Calls Tryz.prog 298 #[.string ⟨#[48, 49, 50, 51, 52, 53, 54, 55, 56, 57, 97, 98, 99, 100, 101, 102]⟩, .int .u8 (c.toNat : Int)] w fun e w' => e = .returned (.int .i64 (hexI c)) ∧ w' = w := by
 have H := strings_IndexByte ⟨#[48, 49, 50, 51, 52, 53, 54, 55, 56, 57, 97, 98, 99, 100, 101, 102]⟩ (c.toNat : Int) w
 have e : ((c.toNat : Int)).toNat.toUInt8 = c := by simp
 rw [e] at H
 have e2 := indexHex c
 rw [show (⟨#[48, 49, 50, 51, 52, 53, 54, 55, 56, 57, 97, 98, 99, 100, 101, 102]⟩ : ByteArray).data.toList = [48, 49, 50, 51, 52, 53, 54, 55, 56, 57, 97, 98, 99, 100, 101, 102] from rfl, e2] at H
 exact H
def qV (o : Option (UInt8 × Nat)) : Value := match o with | none => .tuple #[.int .u8 0, .int .i64 0] | some p => .tuple #[.int .u8 (p.1.toNat : Int), .int .i64 (p.2 : Int)]
theorem byte_of (a b : Nat) (ha : a < 16) (hb : b < 16) : ((UInt8.ofNat (16 * a + b)).toNat : Int) = (a : Int) * 16 + (b : Int) := by
 have : (UInt8.ofNat (16 * a + b)).toNat = 16 * a + b := by
  rw [UInt8.toNat_ofNat']; omega
 rw [this]; omega
theorem qV_eq {a b : Nat} (h : ((UInt8.ofNat (16 * a + b)).toNat : Int) = (a : Int) * 16 + (b : Int)) : Value.tuple #[.int .u8 ((a : Int) * 16 + (b : Int)), .int .i64 3] = qV (some (UInt8.ofNat (16 * a + b), 3)) := by
 unfold qV; simp only [h]; rfl
theorem hexI_lt {c : UInt8} (h : hexV c < 16) : hexI c = (hexV c : Int) := by simp [hexI, h]
theorem hexI_ge {c : UInt8} (h : ¬ hexV c < 16) : hexI c = -1 := by simp [hexI, h]
set_option maxHeartbeats 800000 in
theorem quotedByte_any (t : ByteArray) (w : World) (h0 : 0 < t.size) (hs : t.size ≤ 1048576) : Calls Tryz.prog 344 #[.string t] w fun e w' => e = .returned (qV (qB t.data.toList)) ∧ w' = w := by
 have hp : (0 : Int) < (t.size : Int) := by omega
 have H := isPlain_any t[0] w
 cases hpl : plainB t[0] <;> rw [hpl] at H
 ·by_cases h92 : t[0].toNat = 92
  ·have h92' : ((t[0].toNat : Int) != 92) = false := by rw [bne_eq_false_iff_eq]; omega
   by_cases h3 : t.size < 3
   ·rw [qB_short t h0 hpl h3]
    have h3' : (t.size : Int) < 3 := by omega
    clear h92 hpl
    go_enter Tryz.func344, Tryz.ntmps344
    go_wp2_with (go_at_call 263; refine H.mono ?_; rintro e w' ⟨rfl, rfl⟩)
    go_ret2
    exact ⟨rfl, rfl⟩
   ·have h3' : ¬ (t.size : Int) < 3 := by omega
    have h31 : (1 : Int) < (t.size : Int) := by omega
    have h32 : (2 : Int) < (t.size : Int) := by omega
    have H1 := indexHex_any (t[1]'(by omega)) w
    have H2 := indexHex_any (t[2]'(by omega)) w
    have HQ := qB_hex t (by omega) h92
    clear h92 hpl
    by_cases ha : hexV (t[1]'(by omega)) < 16
    ·rw [hexI_lt ha] at H1
     by_cases hb : hexV (t[2]'(by omega)) < 16
     ·rw [hexI_lt hb] at H2
      rw [if_pos ⟨ha, hb⟩] at HQ
      rw [HQ]
      have HB := byte_of _ _ ha hb
      have HB' : Hid _ := HB
      clear HQ HB
      generalize hexV (t[1]'(by omega)) = a at *
      generalize hexV (t[2]'(by omega)) = b at *
      go_enter Tryz.func344, Tryz.ntmps344
      go_wp2_with (go_at_call 263; refine H.mono ?_; rintro e w' ⟨rfl, rfl⟩)
      refine H1.mono ?_
      rintro e w' ⟨rfl, rfl⟩
      go_wp2_with fail
      refine H2.mono ?_
      rintro e w' ⟨rfl, rfl⟩
      go_wp2
      go_ret2
      exact ⟨ret_val (qV_eq HB'.out), rfl⟩
     ·rw [hexI_ge hb] at H2
      rw [if_neg (fun h => hb h.2)] at HQ
      rw [HQ]
      clear HQ hb
      generalize hexV (t[1]'(by omega)) = a at *
      go_enter Tryz.func344, Tryz.ntmps344
      go_wp2_with (go_at_call 263; refine H.mono ?_; rintro e w' ⟨rfl, rfl⟩)
      refine H1.mono ?_
      rintro e w' ⟨rfl, rfl⟩
      go_wp2_with fail
      refine H2.mono ?_
      rintro e w' ⟨rfl, rfl⟩
      go_wp2
      go_ret2
      exact ⟨rfl, rfl⟩
    ·rw [hexI_ge ha] at H1
     rw [if_neg (fun h => ha h.1)] at HQ
     rw [HQ]
     clear HQ ha
     generalize hexI (t[2]'(by omega)) = b at *
     go_enter Tryz.func344, Tryz.ntmps344
     go_wp2_with (go_at_call 263; refine H.mono ?_; rintro e w' ⟨rfl, rfl⟩)
     refine H1.mono ?_
     rintro e w' ⟨rfl, rfl⟩
     go_wp2_with fail
     refine H2.mono ?_
     rintro e w' ⟨rfl, rfl⟩
     go_wp2
     go_ret2
     exact ⟨rfl, rfl⟩
  ·rw [qB_other t h0 hpl h92]
   have h92' : ((t[0].toNat : Int) != 92) = true := by rw [bne_iff_ne]; omega
   clear h92 hpl
   go_enter Tryz.func344, Tryz.ntmps344
   go_wp2_with (go_at_call 263; refine H.mono ?_; rintro e w' ⟨rfl, rfl⟩)
   go_ret2
   exact ⟨rfl, rfl⟩
 ·rw [qB_plain t h0 hpl]
  clear hpl
  go_enter Tryz.func344, Tryz.ntmps344
  go_wp2_with (go_at_call 263; refine H.mono ?_; rintro e w' ⟨rfl, rfl⟩)
  go_ret2
  exact ⟨rfl, rfl⟩
end Go.Proofs.YtpdahhnjhggocabGreatDoor
namespace Go.Proofs.YtpdahhnjhggocabGreatDoor
open Go.RowKit
theorem take_while (t : ByteArray) (k : Nat) (hk : k ≤ t.size) (hall : (t.data.toList.take k).all bareB = true) (hend : k = t.size ∨ ∃ h : k < t.size, bareB t[k] = false) : t.data.toList.takeWhile bareB = t.data.toList.take k := by
 have e : t.data.toList = t.data.toList.take k ++ t.data.toList.drop k := (List.take_append_drop k _).symm
 have h1 : ∀ x ∈ t.data.toList.take k, bareB x = true := List.all_eq_true.1 hall
 conv => lhs; rw [e]
 rw [List.takeWhile_append_of_pos h1]
 rcases hend with rfl | ⟨h, hb⟩
 ·rw [List.drop_of_length_le (by simp)]; simp
 ·rw [drop_cons t k h, List.takeWhile_cons]; simp [hb]
def Scan (t : ByteArray) (e : Ending) : Prop := ∃ (a b : ByteArray) (ok : Bool), e = .returned (.tuple #[.string a, .string b, .bool ok]) ∧
 ((wordOf t.data.toList = none ∧ ok = false) ∨ ∃ x n, wordOf t.data.toList = some (x, n) ∧ ok = true ∧ a = ⟨x.toArray⟩ ∧ b = t.extract n t.size)
theorem scan_bare (t : ByteArray) (h0 : 0 < t.size) (h34 : t[0].toNat ≠ 34) (k : Nat) (hk : k ≤ t.size) (hall : (t.data.toList.take k).all bareB = true) (hend : k = t.size ∨ ∃ h : k < t.size, bareB t[k] = false) :
  Scan t (.returned (.tuple #[.string (t.extract 0 k), .string (t.extract k t.size), .bool (decide (0 < k))])) := by
 have htw := take_while t k hk hall hend
 refine ⟨_, _, _, rfl, ?_⟩
 have hl := list1 t h0
 by_cases hk0 : k = 0
 ·left
  subst hk0
  refine ⟨?_, rfl⟩
  have hb : bareB t[0] = false := by
   rcases hend with h | ⟨_, h⟩
   ·omega
   ·exact h
  rw [hl, wordOf, if_neg h34, if_pos hb]
 ·right
  have hb : ¬ bareB t[0] = false := by
   intro hb
   have hm : t[0] ∈ t.data.toList.take k := by
    rw [hl]; match k, hk0 with | k + 1, _ => simp
   have := List.all_eq_true.1 hall _ hm
   rw [hb] at this; exact Bool.noConfusion this
  refine ⟨t.data.toList.take k, k, ?_, by simp; omega, bytes_take t k, rfl⟩
  rw [← htw]
  have : k = (t.data.toList.takeWhile bareB).length := by rw [htw]; simp; omega
  conv => rhs; rw [this]
  conv => lhs; rw [hl]
  rw [wordOf, if_neg h34, if_neg hb, ← hl]
set_option maxHeartbeats 1000000 in
theorem bareScan_any (t : ByteArray) (w : World) (h0 : 0 < t.size) (h34 : t[0].toNat ≠ 34) (hs : t.size ≤ 1048576) :
  Calls Tryz.prog 345 #[.agg #[], .string t] w fun e w' => Scan t e ∧ Below w.heap.size w w' := by
 have HS := fun k hk hall hend => (show Hid (Scan t (.returned (.tuple #[.string (t.extract 0 k), .string (t.extract k t.size), .bool (decide (0 < k))]))) from scan_bare t h0 h34 k hk hall hend)
 clear h34
 go_enter Tryz.func345, Tryz.ntmps345
 go_wp2
 go_loop [7] (fun i => ∃ k : Nat, k ≤ t.size ∧ i = .int .i64 k ∧ Hid ((t.data.toList.take k).all bareB = true)) (fun i => t.size - (intOf i).toNat)
 case atStart => exact ⟨0, Nat.zero_le _, rfl, by show _ = _; simp⟩
 case round =>
  obtain ⟨k, hk, rfl, hall⟩ := hrel
  by_cases hlt : k < t.size
  ·have H := isBare_any t[k] (w.alloc (.cells #[] 335))
   cases hb : bareB t[k] <;> rw [hb] at H
   ·have HF : Hid (Scan t (.returned (.tuple #[.string (t.extract 0 k), .string (t.extract k t.size), .bool (decide (0 < k))]))) := HS k hk hall.out (Or.inr ⟨hlt, hb⟩)
    clear HS hb
    go_wp2_with (go_at_call 261; refine H.mono ?_; rintro e w' ⟨rfl, rfl⟩)
    go_region_held3 (fun _ => True) (first | trivial | exact True.intro)
     (first | (go_at_call 245; refine (clone_any (t.extract 0 k) _ ?_).mono ?_; (simp; omega); rintro e w1 ⟨rfl, b1⟩))
    all_goals
     go_wp2
     go_ret3
     exact ⟨HF.out, (((Below.refl _ w).alloc (Nat.le_refl _) _).drew).trans (b1.mono (by simp))⟩
   ·have HA : Hid ((t.data.toList.take (k + 1)).all bareB = true) := by show _ = _; rw [all_snoc t k hlt, hall.out, hb]; rfl
    clear HS hb
    go_wp2_with (go_at_call 261; refine H.mono ?_; rintro e w' ⟨rfl, rfl⟩)
    go_round
    case rel => exact ⟨k + 1, by omega, by go_num, HA⟩
    case measure => simp [intOf]; omega
  ·have HF : Hid (Scan t (.returned (.tuple #[.string (t.extract 0 k), .string (t.extract k t.size), .bool (decide (0 < k))]))) := HS k hk hall.out (Or.inl (by omega))
   clear HS
   go_wp2
   go_region_held3 (fun _ => True) (first | trivial | exact True.intro)
    (first | (go_at_call 245; refine (clone_any (t.extract 0 k) _ ?_).mono ?_; (simp; omega); rintro e w1 ⟨rfl, b1⟩))
   all_goals
    go_wp2
    go_ret3
    exact ⟨HF.out, (((Below.refl _ w).alloc (Nat.le_refl _) _).drew).trans (b1.mono (by simp))⟩
theorem qB_unq (L : List UInt8) (c : UInt8) (r : List UInt8) (hL : L = c :: r) (h34 : c.toNat ≠ 34) : unq L = match qB L with | none => none | some p => (unq (L.drop p.2)).map (fun q => (p.1 :: q.1, q.2 + p.2)) := by
 subst hL
 rw [unq_cons, if_neg h34]
 by_cases hp : plainB c = true
 ·have := plainB_true hp
  rw [if_neg (by omega), if_pos (by omega)]
  simp [qB, hp]
 ·have hp' : plainB c = false := by simpa using hp
  by_cases h92 : c.toNat = 92
  ·rw [if_pos h92]
   match r with
   | [] => simp [unqH, qB, hp', h92]
   | [_] => simp [unqH, qB, hp', h92]
   | a :: b :: r' =>
    rw [unqH]
    by_cases hh : hexV a < 16 ∧ hexV b < 16
    ·simp [qB, hp', h92, hh]
    ·simp [qB, hp', h92, hh]
  ·rw [if_neg h92, if_neg (fun h => by rw [plainB_mk (by omega)] at hp'; exact Bool.noConfusion hp')]
   simp [qB, hp', h92]
theorem qB_len (L : List UInt8) (p : UInt8 × Nat) (h : qB L = some p) : 1 ≤ p.2 ∧ p.2 ≤ L.length := by
 match L, h with
 | [c], h => simp only [qB] at h; split at h <;> simp at h; subst h; simp
 | [c, _], h => simp only [qB] at h; split at h <;> simp at h; subst h; simp
 | c :: a :: b :: r, h =>
  simp only [qB] at h
  split at h
  ·simp at h; subst h; simp
  ·split at h
   ·split at h
    ·simp at h; subst h; simp
    ·simp at h
   ·simp at h
theorem Uq_qB (t : ByteArray) (i : Nat) (acc : List UInt8) (h : i < t.size) (h34 : t[i].toNat ≠ 34) :
  Uq t.data.toList i acc = match qB (t.data.toList.drop i) with | none => none | some p => Uq t.data.toList (i + p.2) (acc ++ [p.1]) := by
 unfold Uq
 rw [qB_unq (t.data.toList.drop i) _ _ (drop_cons t i h) h34]
 cases qB (t.data.toList.drop i) with
 | none => rfl
 | some p =>
  simp only [Option.map_map, List.drop_drop]
  congr 1; funext q; simp; omega
theorem scan_quote (t : ByteArray) (h0 : 0 < t.size) (h34 : t[0].toNat = 34) (x : List UInt8) (n : Nat) (h : Uq t.data.toList 1 [] = some (x, n)) :
  Scan t (.returned (.tuple #[.string ⟨x.toArray⟩, .string (t.extract n t.size), .bool true])) := by
 refine ⟨_, _, _, rfl, Or.inr ⟨x, n, ?_, rfl, rfl, rfl⟩⟩
 rw [list1 t h0, wordOf, if_pos h34]
 unfold Uq at h
 cases hu : unq (t.data.toList.drop 1) with
 | none => rw [hu] at h; simp at h
 | some p => rw [hu] at h; simp at h; obtain ⟨rfl, rfl⟩ := h; simp; omega
theorem scan_quote_no (t : ByteArray) (h0 : 0 < t.size) (h34 : t[0].toNat = 34) (h : Uq t.data.toList 1 [] = none) (a b : ByteArray) :
  Scan t (.returned (.tuple #[.string a, .string b, .bool false])) := by
 refine ⟨_, _, _, rfl, Or.inl ⟨?_, rfl⟩⟩
 rw [list1 t h0, wordOf, if_pos h34]
 unfold Uq at h
 cases hu : unq (t.data.toList.drop 1) with
 | none => rfl
 | some p => rw [hu] at h; simp at h
set_option maxHeartbeats 2000000 in
set_option maxRecDepth 100000 in
theorem quoteScan_any (t : ByteArray) (w : World) (h0 : 0 < t.size) (h34 : t[0].toNat = 34) (hs : t.size ≤ 1048576) :
  Calls Tryz.prog 343 #[.agg #[], .string t] w fun e w' => Scan t e ∧ Below w.heap.size w w' := by
 obtain ⟨i0, hi, hz0, hz1, hz2⟩ := info_parts info5
 have HY : ∀ x n, Hid (Uq t.data.toList 1 [] = some (x, n)) → Hid (Scan t (.returned (.tuple #[.string ⟨x.toArray⟩, .string (t.extract n t.size), .bool true]))) := fun x n h => scan_quote t h0 h34 x n h
 have HN : Hid (Uq t.data.toList 1 [] = none) → ∀ a b, Hid (Scan t (.returned (.tuple #[.string a, .string b, .bool false]))) := fun h a b => scan_quote_no t h0 h34 h a b
 clear h34
 go_enter Tryz.func343, Tryz.ntmps343
 go_wp2
 go_loopw [7, 8] (fun v i wr => ∃ (k : Nat) (acc : List UInt8), k ≤ t.size ∧ acc.length ≤ k ∧ i = .int .i64 k ∧ wr.ownsRow w.heap.size 5 1 v acc.length (Lib.byteCells acc) ∧ Below w.heap.size w wr ∧ Hid (Uq t.data.toList k acc = Uq t.data.toList 1 [])) (fun _ i _ => t.size - (intOf i).toNat)
 case atStart => exact ⟨1, [], by omega, by simp, rfl, World.ownsRow_nil _ _ _ _, (Below.refl _ _).alloc (Nat.le_refl _) _, rfl⟩
 case round =>
  obtain ⟨k, acc, hk, hal, rfl, hown, hbw, hU⟩ := hrel
  have hsz := hbw.size
  by_cases hlt : k < t.size
  ·by_cases h34 : t[k].toNat = 34
   ·have h34' : ((t[k].toNat : Int) != 34) = false := by rw [bne_eq_false_iff_eq]; omega
    have HF : Hid _ := HY acc (k + 1) (by show _ = _; rw [← hU.out]; exact Uq_mark t k acc hlt h34)
    clear HY HN hU h34
    have hcv := fun n => conv_own (wr.drewN n) _ _ _ _ (own_drewN hown n)
    have q2 : ¬ t.size ≤ k := by omega
    go_wp2
    go_quiet (fail)
    go_wp2
    go_ret3
    exact ⟨HF.out, below_drewN hbw _⟩
   ·have h34' : ((t[k].toNat : Int) != 34) = true := by rw [bne_iff_ne]; omega
    have HQ := Uq_qB t k acc hlt h34
    have H := fun W => quotedByte_any (t.extract k t.size) W (by simp; omega) (by simp; omega)
    rw [bytes_drop] at H
    have HL := qB_len (t.data.toList.drop k)
    clear h34
    cases hq : qB (t.data.toList.drop k) with
    | none =>
     rw [hq] at HQ H
     simp only [qV] at H
     have HF := HN (by show _ = _; rw [← hU.out]; exact HQ)
     clear HY HN hU HQ HL hq
     go_wp2_with (go_at_call 344; refine (H _).mono ?_; rintro e w' ⟨rfl, rfl⟩)
     go_ret3
     exact ⟨HF _ _, hbw⟩
    | some p =>
     obtain ⟨b, n⟩ := p
     rw [hq] at HQ H
     simp only [qV] at H
     have hn := HL _ hq
     have HU' : Hid (Uq t.data.toList (k + n) (acc ++ [b]) = Uq t.data.toList 1 []) := by show _ = _; rw [← hU.out]; exact HQ.symm
     clear HY HN hU HQ HL hq
     have hn0 : ((n : Int) == 0) = false := by rw [beq_eq_false_iff_ne]; omega
     have hn1 : n ≤ t.size - k := by have := hn.2; simpa using this
     have hn2 := hn.1
     clear hn
     go_wp2_with (first | (go_at_call 344; refine (H _).mono ?_; rintro e wr ⟨rfl, rfl⟩) | (at_builtin; refine wpList_append_lies _ rfl _ _ 93 rfl w.heap.size 5 i0 (.int .u8 0) 1 1 Tryz.underlying93 hi hz0 hz1 hz2 rfl (by decide) _ acc.length _ rfl (hown.alloc _) ⟨wr.heap.size, 0, none⟩ 1 1 [.int .u8 (b.toNat : Int)] rfl rfl (news1 wr _ 5) ?c2 (by decide) ?c3 ?c4 ?c5 (wr.heap.size + 1) (by simp) ?_))
     case c2 => intro u hu; simp at hu; subst hu; rfl
     case c3 => unfold maxLen; omega
     case c4 => omega
     case c5 => simp; omega
     intro g cap w1 hown1 hgrow hat hlt1
     go_wp2
     go_roundw
     case rel =>
      refine ⟨k + n, acc ++ [b], by omega, by simp; omega, by go_num, ?_, (hbw.alloc (by omega) _).grown hgrow (by simp; omega) (fun k hk => (hown.lt k hk).1), HU'⟩
      rw [Lib.byteCells_append, List.length_append]; exact hown1
     case measure => simp [intOf]; omega
  ·have HF := HN (by show _ = _; rw [← hU.out]; exact Uq_end t k acc hlt)
   clear HY HN hU
   go_wp2
   go_ret3
   exact ⟨HF _ _, hbw⟩
end Go.Proofs.YtpdahhnjhggocabGreatDoor
namespace Go.Proofs.YtpdahhnjhggocabGreatDoor
open Go.RowKit
def CutPost (R : Option (List (List UInt8))) (w : World) (e : Ending) (w' : World) : Prop :=
 ∃ v, e = .returned (.agg #[v, .bool R.isNone]) ∧ w'.ownsRow w.heap.size 9 1 v (R.getD []).length (strs (R.getD [])) ∧ Below w.heap.size w w'
def strSize : Value → Nat
 | .string s => s.size
 | _ => 0
theorem trim_any (t : ByteArray) (w : World) : Calls Tryz.prog 255 #[.string t, .string ⟨#[32]⟩] w fun e w' => e = .returned (.string ⟨(t.data.toList.dropWhile (fun c => c == 32)).toArray⟩) ∧ w' = w :=
 strings_TrimLeft_one t 32 (by decide) w
set_option maxHeartbeats 400000 in
theorem scannerOf_q (t : ByteArray) (w : World) (h0 : 0 < t.size) (h34 : t[0].toNat = 34) (hs : t.size ≤ 1048576) : Calls Tryz.prog 256 #[.string t] w fun e w' => e = .returned (.iface 334 (.agg #[])) ∧ w' = w := by
 have hp : (0 : Int) < (t.size : Int) := by omega
 have h : ((t[0].toNat : Int) == 34) = true := by rw [beq_iff_eq]; omega
 clear h34
 go_enter Tryz.func256, Tryz.ntmps256
 go_wp2
 go_ret
 exact ⟨rfl, rfl⟩
set_option maxHeartbeats 400000 in
theorem scannerOf_b (t : ByteArray) (w : World) (h0 : 0 < t.size) (h34 : t[0].toNat ≠ 34) (hs : t.size ≤ 1048576) : Calls Tryz.prog 256 #[.string t] w fun e w' => e = .returned (.iface 335 (.agg #[])) ∧ w' = w := by
 have hp : (0 : Int) < (t.size : Int) := by omega
 have h : ((t[0].toNat : Int) == 34) = false := by rw [beq_eq_false_iff_ne]; omega
 clear h34
 go_enter Tryz.func256, Tryz.ntmps256
 go_wp2
 go_ret
 exact ⟨rfl, rfl⟩
theorem trim_size (s : ByteArray) (hs : s.size ≤ 1048576) : (⟨(s.data.toList.dropWhile (fun c => c == 32)).toArray⟩ : ByteArray).size ≤ 1048576 := by
 have h : (s.data.toList.dropWhile (fun c => c == 32)).length ≤ s.data.toList.length := (List.dropWhile_suffix _).length_le
 show (s.data.toList.dropWhile (fun c => c == 32)).toArray.size ≤ _
 have h2 : s.data.toList.length = s.size := by simp
 rw [List.size_toArray]; omega
theorem trim_len (s : ByteArray) : (⟨(s.data.toList.dropWhile (fun c => c == 32)).toArray⟩ : ByteArray).size ≤ s.size := by
 have h : (s.data.toList.dropWhile (fun c => c == 32)).length ≤ s.data.toList.length := (List.dropWhile_suffix _).length_le
 show (s.data.toList.dropWhile (fun c => c == 32)).toArray.size ≤ _
 have h2 : s.data.toList.length = s.size := by simp
 rw [List.size_toArray]; omega
theorem trim_head (s : ByteArray) : ∀ h : 0 < (⟨(s.data.toList.dropWhile (fun c => c == 32)).toArray⟩ : ByteArray).size, (⟨(s.data.toList.dropWhile (fun c => c == 32)).toArray⟩ : ByteArray)[0].toNat ≠ 32 := by
 intro h
 have hn : ∀ hne, (fun c : UInt8 => c == 32) ((s.data.toList.dropWhile (fun c => c == 32)).head hne) = false := fun hne => List.head_dropWhile_not _ hne
 generalize s.data.toList.dropWhile (fun c => c == 32) = l at *
 match l, h, hn with
 | c :: r, h, hn =>
  have := hn (by simp)
  simp at this
  show c.toNat ≠ 32
  intro hc; exact this (UInt8.toNat_inj.1 hc)
theorem cut_done {w wr : World} {T : TypeId} {acc : List (List UInt8)} {R : Option (List (List UInt8))} {ao : Option Addr} {cap : Nat} {cs : Array Value} (hR : R = some acc) (hown : wr.ownsRow (w.heap.size + 1) 9 1 (.slice ao acc.length cap) acc.length (strs acc))
  (hbw : Below (w.heap.size + 1) (w.alloc (.cells cs T)) wr) (x y : Value) : CutPost R w (.returned (.agg #[.slice ao acc.length cap, .bool false])) ((wr.setCell ⟨w.heap.size, 0, none⟩ x).setCell ⟨w.heap.size, 1, none⟩ y) := by
 subst hR
 exact ⟨_, rfl, own_mono (own_setCell (own_setCell hown ⟨w.heap.size, 0, none⟩ (Nat.lt_succ_self _) x) ⟨w.heap.size, 1, none⟩ (Nat.lt_succ_self _) y) (by omega), ((((Below.refl _ w).alloc (Nat.le_refl _) _).trans (hbw.mono (by omega))).setCell (by simp) _).setCell (by simp) _⟩
theorem cut_bad {w wr : World} {T : TypeId} {R : Option (List (List UInt8))} {cs : Array Value} (hR : R = none)
  (hbw : Below (w.heap.size + 1) (w.alloc (.cells cs T)) wr) (x y : Value) : CutPost R w (.returned (.agg #[.slice none 0 0, .bool true])) ((wr.setCell ⟨w.heap.size, 0, none⟩ x).setCell ⟨w.heap.size, 1, none⟩ y) := by
 subst hR
 exact ⟨_, rfl, World.ownsRow_nil _ _ _ _, ((((Below.refl _ w).alloc (Nat.le_refl _) _).trans (hbw.mono (by omega))).setCell (by simp) _).setCell (by simp) _⟩
theorem ne_empty (t : ByteArray) (h0 : 0 < t.size) : t.toList.isEmpty = false := by
 rw [ByteArray.toList_eq, list1 t h0]; rfl
theorem method_q (w : World) : (method 503 334 (.agg #[]) "loop.example/wharfsheet/impl.scan").run Tryz.prog w = .ok (343, .agg #[]) w := by kernel_rfl
theorem method_b (w : World) : (method 503 335 (.agg #[]) "loop.example/wharfsheet/impl.scan").run Tryz.prog w = .ok (345, .agg #[]) w := by kernel_rfl
set_option maxHeartbeats 2000000 in
set_option maxRecDepth 100000 in
theorem implWords_any (s : ByteArray) (w : World) (hs : s.size ≤ 1048576) : Calls Tryz.prog 230 #[.string s] w fun e w' => CutPost (cutL s.data.toList) w e w' := by
 obtain ⟨i0, hi, hz0, hz1, hz2⟩ := info_parts info9
 have HC : Hid (Cut [] s.data.toList (cutL s.data.toList)) := Cut.start _
 generalize cutL s.data.toList = R at *
 go_enter Tryz.func230, Tryz.ntmps230
 go_wp2_with (go_at_call 255; refine (trim_any s _).mono ?_; rintro e w0 ⟨rfl, rfl⟩)
 go_loopw [3, 4] (fun v r wr => ∃ (acc : List (List UInt8)) (t : ByteArray) (ao : Option Addr) (cap : Nat), acc.length ≤ 8 ∧ t.size ≤ 1048576 ∧ r = .string t ∧ v = .slice ao acc.length cap ∧ wr.ownsRow (w.heap.size + 1) 9 1 v acc.length (strs acc) ∧ Below (w.heap.size + 1) (w.alloc (.cells #[.slice none 0 0, .bool false] 66)) wr ∧ Hid (Cut acc t.data.toList R) ∧ Hid (∀ h : 0 < t.size, t[0].toNat ≠ 32)) (fun _ r _ => strSize r)
 case atStart => exact ⟨[], _, none, 0, by simp, trim_size s hs, rfl, rfl, World.ownsRow_nil _ _ _ _, Below.refl _ _, HC.out.trim, trim_head s⟩
 case round =>
  obtain ⟨acc, t, ao, cap, hal, hts, rfl, rfl, hown, hbw, hC, h32⟩ := hrel
  have hsz := hbw.size
  simp only [World.size_alloc] at hsz
  have hc0 : wr.cell? ⟨w.heap.size, 0, none⟩ = some (.slice none 0 0) := by rw [hbw.cell (by simp)]; simp
  have hc1 : wr.cell? ⟨w.heap.size, 1, none⟩ = some (.bool false) := by rw [hbw.cell (by simp)]; simp
  have hf0 : wr.frozen? ⟨w.heap.size, 0, none⟩ = false := by rw [hbw.frozen (by simp)]; simp
  have hf1 : wr.frozen? ⟨w.heap.size, 1, none⟩ = false := by rw [hbw.frozen (by simp)]; simp
  by_cases h0 : 0 < t.size
  ·have hp : (0 : Int) < (t.size : Int) := by omega
   have hne : t.toList.isEmpty = false := ne_empty t h0
   by_cases h35 : t[0].toNat = 35
   ·have h35' : ((t[0].toNat : Int) != 35) = false := by rw [bne_eq_false_iff_eq]; omega
    have hR : Hid (R = some acc) := by
     have := hC.out; rw [list1 t h0] at this; exact this.hash h35
    clear hC h32 h35
    go_wp2
    exact bodyPost_ret (v := .agg #[.slice ao acc.length cap, .bool false]) (by simp [results, Tryz.results230, go_sem, hc0, hc1]) rfl (cut_done hR.out hown hbw _ _)
   ·have h35' : ((t[0].toNat : Int) != 35) = true := by rw [bne_iff_ne]; omega
    have h32' := h32.out h0
    by_cases h34 : t[0].toNat = 34
    ·have hm := method_q
     go_wp2_with (go_at_call 256; refine (scannerOf_q t _ h0 h34 hts).mono ?_; rintro e wr ⟨rfl, rfl⟩)
     refine (quoteScan_any t _ h0 h34 hts).mono ?_
     rintro e w1 ⟨⟨a, b, ok, rfl, hcase⟩, b1⟩
     have hs1 := b1.size
     have hbw1 := hbw.trans (b1.mono hsz)
     have hown1 := own_below hown b1
     have hc0' : w1.cell? ⟨w.heap.size, 0, none⟩ = some (.slice none 0 0) := by rw [b1.cell (by simp; omega)]; exact hc0
     have hc1' : w1.cell? ⟨w.heap.size, 1, none⟩ = some (.bool false) := by rw [b1.cell (by simp; omega)]; exact hc1
     have hf0' : w1.frozen? ⟨w.heap.size, 0, none⟩ = false := by rw [b1.frozen (by simp; omega)]; exact hf0
     have hf1' : w1.frozen? ⟨w.heap.size, 1, none⟩ = false := by rw [b1.frozen (by simp; omega)]; exact hf1
     clear hc0 hc1 hf0 hf1 hbw hown b1 hm h34
     rcases hcase with ⟨hw, rfl⟩ | ⟨x, n, hw, rfl, ha, rfl⟩
     ·have hR : Hid (R = none) := by have h := hC.out; rw [list1 t h0] at h hw; exact h.none h32' h35 hw
      clear hC h32 h32' hw h35
      go_wp2
      exact bodyPost_ret (v := .agg #[.slice none 0 0, .bool true]) (by simp [results, Tryz.results230, go_sem, hc0', hc1']) rfl (cut_bad hR.out hbw1 _ _)
     ·have hn := wordOf_pos _ _ _ hw
      have hts2 : (t.extract n t.size).size ≤ 1048576 := by simp; omega
      have hE := endsWord_any (t.extract n t.size) w1 hts2
      rw [bytes_drop] at hE
      have hax : a.size = x.length := by rw [ha]; rfl
      have HA : Hid (a = ⟨x.toArray⟩) := ha
      clear ha
      have HNO : ¬ (endOk (t.data.toList.drop n) = true ∧ x.length ≤ 200 ∧ acc.length < 8) → Hid (R = none) := fun hno => by have h := hC.out; rw [list1 t h0] at h hw hno; exact h.no h32' h35 hw hno
      have HYES : (endOk (t.data.toList.drop n) = true ∧ x.length ≤ 200 ∧ acc.length < 8) → Hid (Cut (acc ++ [x]) (t.data.toList.drop n) R) := fun hy => by have h := hC.out; have hl := list1 t h0; rw [hl] at h hw hy; rw [hl]; exact h.word h32' h35 hw hy
      clear hC h32 h32' hw h35
      by_cases hok : endOk (t.data.toList.drop n) = true
      ·rw [hok] at hE
       by_cases h200 : x.length ≤ 200
       ·have h200' : (a.size : Int) ≤ 200 := by omega
        by_cases h8 : acc.length < 8
        ·have h8' : ((acc.length : Int) == 8) = false := by rw [beq_eq_false_iff_ne]; omega
         have HC2 := HYES ⟨hok, h200, h8⟩
         clear HNO HYES hok
         go_wp2_with (first | (go_at_call 257; refine hE.mono ?_; rintro e w1 ⟨rfl, rfl⟩) | (at_builtin; refine wpList_append_lies _ rfl _ _ 61 rfl (w.heap.size + 1) 9 i0 (.string ⟨#[]⟩) 1 16 Tryz.underlying61 hi hz0 hz1 hz2 rfl (by decide) _ acc.length _ rfl (hown1.alloc _) ⟨w1.heap.size, 0, none⟩ 1 1 [.string a] rfl rfl (news1 w1 _ 9) ?c2 (by decide) ?c3 ?c4 ?c5 (w1.heap.size + 1) (by simp) ?_))
         case c2 => intro u hu; simp at hu; subst hu; rfl
         case c3 => unfold maxLen; omega
         case c4 => omega
         case c5 => simp; omega
         intro g cap2 w2 hown2 hgrow hat hlt1
         have hbw2 : Below (w.heap.size + 1) (w.alloc (.cells #[.slice none 0 0, .bool false] 66)) w2 := (hbw1.alloc (by omega) _).grown hgrow (by simp; omega) (fun k hk => (hown1.lt k hk).1)
         go_wp2_with (go_at_call 255; refine (trim_any (t.extract n t.size) _).mono ?_; rintro e w2 ⟨rfl, rfl⟩)
         go_roundw
         case rel =>
          refine ⟨acc ++ [x], ⟨(((t.data.toList.drop n).take (t.size - n)).dropWhile (fun c => c == 32)).toArray⟩, some ⟨g, 0, none⟩, cap2, by simp; omega, by rw [← Lib.extract_data]; exact trim_size _ hts2, rfl, by rw [List.length_append]; rfl, ?_, hbw2, ?_, by rw [← Lib.extract_data]; exact trim_head _⟩
          ·rw [strs_append, List.length_append]; rw [HA.out] at hown2; exact hown2
          ·have h := HC2.out.trim
           rw [← bytes_drop] at h
           rw [← Lib.extract_data]
           exact h
         case measure =>
          have hlen := trim_len (t.extract n t.size)
          have hsz2 : (t.extract n t.size).size < t.size := by
           simp only [ByteArray.size_extract]; omega
          rw [Lib.extract_data] at hlen
          exact Nat.lt_of_le_of_lt hlen hsz2
        ·have h8' : ((acc.length : Int) == 8) = true := by rw [beq_iff_eq]; omega
         have hR := HNO (fun h => h8 h.2.2)
         clear HNO HYES hok
         go_wp2_with (go_at_call 257; refine hE.mono ?_; rintro e w1 ⟨rfl, rfl⟩)
         exact bodyPost_ret (v := .agg #[.slice none 0 0, .bool true]) (by simp [results, Tryz.results230, go_sem, hc0', hc1']) rfl (cut_bad hR.out hbw1 _ _)
       ·have h200' : ¬ (a.size : Int) ≤ 200 := by omega
        have h200'' : (200 : Int) < (a.size : Int) := by omega
        have hR := HNO (fun h => h200 h.2.1)
        clear HNO HYES hok
        go_wp2_with (go_at_call 257; refine hE.mono ?_; rintro e w1 ⟨rfl, rfl⟩)
        exact bodyPost_ret (v := .agg #[.slice none 0 0, .bool true]) (by simp [results, Tryz.results230, go_sem, hc0', hc1']) rfl (cut_bad hR.out hbw1 _ _)
      ·have hR := HNO (fun h => hok h.1)
       rw [Bool.not_eq_true] at hok
       rw [hok] at hE
       clear HNO HYES hok
       go_wp2_with (go_at_call 257; refine hE.mono ?_; rintro e w1 ⟨rfl, rfl⟩)
       exact bodyPost_ret (v := .agg #[.slice none 0 0, .bool true]) (by simp [results, Tryz.results230, go_sem, hc0', hc1']) rfl (cut_bad hR.out hbw1 _ _)
    ·have hm := method_b
     go_wp2_with (go_at_call 256; refine (scannerOf_b t _ h0 h34 hts).mono ?_; rintro e wr ⟨rfl, rfl⟩)
     refine (bareScan_any t _ h0 h34 hts).mono ?_
     rintro e w1 ⟨⟨a, b, ok, rfl, hcase⟩, b1⟩
     have hs1 := b1.size
     have hbw1 := hbw.trans (b1.mono hsz)
     have hown1 := own_below hown b1
     have hc0' : w1.cell? ⟨w.heap.size, 0, none⟩ = some (.slice none 0 0) := by rw [b1.cell (by simp; omega)]; exact hc0
     have hc1' : w1.cell? ⟨w.heap.size, 1, none⟩ = some (.bool false) := by rw [b1.cell (by simp; omega)]; exact hc1
     have hf0' : w1.frozen? ⟨w.heap.size, 0, none⟩ = false := by rw [b1.frozen (by simp; omega)]; exact hf0
     have hf1' : w1.frozen? ⟨w.heap.size, 1, none⟩ = false := by rw [b1.frozen (by simp; omega)]; exact hf1
     clear hc0 hc1 hf0 hf1 hbw hown b1 hm h34
     rcases hcase with ⟨hw, rfl⟩ | ⟨x, n, hw, rfl, ha, rfl⟩
     ·have hR : Hid (R = none) := by have h := hC.out; rw [list1 t h0] at h hw; exact h.none h32' h35 hw
      clear hC h32 h32' hw h35
      go_wp2
      exact bodyPost_ret (v := .agg #[.slice none 0 0, .bool true]) (by simp [results, Tryz.results230, go_sem, hc0', hc1']) rfl (cut_bad hR.out hbw1 _ _)
     ·have hn := wordOf_pos _ _ _ hw
      have hts2 : (t.extract n t.size).size ≤ 1048576 := by simp; omega
      have hE := endsWord_any (t.extract n t.size) w1 hts2
      rw [bytes_drop] at hE
      have hax : a.size = x.length := by rw [ha]; rfl
      have HA : Hid (a = ⟨x.toArray⟩) := ha
      clear ha
      have HNO : ¬ (endOk (t.data.toList.drop n) = true ∧ x.length ≤ 200 ∧ acc.length < 8) → Hid (R = none) := fun hno => by have h := hC.out; rw [list1 t h0] at h hw hno; exact h.no h32' h35 hw hno
      have HYES : (endOk (t.data.toList.drop n) = true ∧ x.length ≤ 200 ∧ acc.length < 8) → Hid (Cut (acc ++ [x]) (t.data.toList.drop n) R) := fun hy => by have h := hC.out; have hl := list1 t h0; rw [hl] at h hw hy; rw [hl]; exact h.word h32' h35 hw hy
      clear hC h32 h32' hw h35
      by_cases hok : endOk (t.data.toList.drop n) = true
      ·rw [hok] at hE
       by_cases h200 : x.length ≤ 200
       ·have h200' : (a.size : Int) ≤ 200 := by omega
        by_cases h8 : acc.length < 8
        ·have h8' : ((acc.length : Int) == 8) = false := by rw [beq_eq_false_iff_ne]; omega
         have HC2 := HYES ⟨hok, h200, h8⟩
         clear HNO HYES hok
         go_wp2_with (first | (go_at_call 257; refine hE.mono ?_; rintro e w1 ⟨rfl, rfl⟩) | (at_builtin; refine wpList_append_lies _ rfl _ _ 61 rfl (w.heap.size + 1) 9 i0 (.string ⟨#[]⟩) 1 16 Tryz.underlying61 hi hz0 hz1 hz2 rfl (by decide) _ acc.length _ rfl (hown1.alloc _) ⟨w1.heap.size, 0, none⟩ 1 1 [.string a] rfl rfl (news1 w1 _ 9) ?c2 (by decide) ?c3 ?c4 ?c5 (w1.heap.size + 1) (by simp) ?_))
         case c2 => intro u hu; simp at hu; subst hu; rfl
         case c3 => unfold maxLen; omega
         case c4 => omega
         case c5 => simp; omega
         intro g cap2 w2 hown2 hgrow hat hlt1
         have hbw2 : Below (w.heap.size + 1) (w.alloc (.cells #[.slice none 0 0, .bool false] 66)) w2 := (hbw1.alloc (by omega) _).grown hgrow (by simp; omega) (fun k hk => (hown1.lt k hk).1)
         go_wp2_with (go_at_call 255; refine (trim_any (t.extract n t.size) _).mono ?_; rintro e w2 ⟨rfl, rfl⟩)
         go_roundw
         case rel =>
          refine ⟨acc ++ [x], ⟨(((t.data.toList.drop n).take (t.size - n)).dropWhile (fun c => c == 32)).toArray⟩, some ⟨g, 0, none⟩, cap2, by simp; omega, by rw [← Lib.extract_data]; exact trim_size _ hts2, rfl, by rw [List.length_append]; rfl, ?_, hbw2, ?_, by rw [← Lib.extract_data]; exact trim_head _⟩
          ·rw [strs_append, List.length_append]; rw [HA.out] at hown2; exact hown2
          ·have h := HC2.out.trim
           rw [← bytes_drop] at h
           rw [← Lib.extract_data]
           exact h
         case measure =>
          have hlen := trim_len (t.extract n t.size)
          have hsz2 : (t.extract n t.size).size < t.size := by
           simp only [ByteArray.size_extract]; omega
          rw [Lib.extract_data] at hlen
          exact Nat.lt_of_le_of_lt hlen hsz2
        ·have h8' : ((acc.length : Int) == 8) = true := by rw [beq_iff_eq]; omega
         have hR := HNO (fun h => h8 h.2.2)
         clear HNO HYES hok
         go_wp2_with (go_at_call 257; refine hE.mono ?_; rintro e w1 ⟨rfl, rfl⟩)
         exact bodyPost_ret (v := .agg #[.slice none 0 0, .bool true]) (by simp [results, Tryz.results230, go_sem, hc0', hc1']) rfl (cut_bad hR.out hbw1 _ _)
       ·have h200' : ¬ (a.size : Int) ≤ 200 := by omega
        have h200'' : (200 : Int) < (a.size : Int) := by omega
        have hR := HNO (fun h => h200 h.2.1)
        clear HNO HYES hok
        go_wp2_with (go_at_call 257; refine hE.mono ?_; rintro e w1 ⟨rfl, rfl⟩)
        exact bodyPost_ret (v := .agg #[.slice none 0 0, .bool true]) (by simp [results, Tryz.results230, go_sem, hc0', hc1']) rfl (cut_bad hR.out hbw1 _ _)
      ·have hR := HNO (fun h => hok h.1)
       rw [Bool.not_eq_true] at hok
       rw [hok] at hE
       clear HNO HYES hok
       go_wp2_with (go_at_call 257; refine hE.mono ?_; rintro e w1 ⟨rfl, rfl⟩)
       exact bodyPost_ret (v := .agg #[.slice none 0 0, .bool true]) (by simp [results, Tryz.results230, go_sem, hc0', hc1']) rfl (cut_bad hR.out hbw1 _ _)
  ·have ht : t = ⟨#[]⟩ := by apply ByteArray.ext; exact Array.eq_empty_of_size_eq_zero (by show t.size = 0; omega)
   subst ht
   have hR : Hid (R = some acc) := Cut.nil hC.out
   clear hC h32 h0
   go_wp2
   exact bodyPost_ret (v := .agg #[.slice ao acc.length cap, .bool false]) (by simp [results, Tryz.results230, go_sem, hc0, hc1]) rfl (cut_done hR.out hown hbw _ _)
end Go.Proofs.YtpdahhnjhggocabGreatDoor
namespace Go.Proofs.YtpdahhnjhggocabGreatDoor
open Go.RowKit
def qR (o : Option (List UInt8 × Nat)) : Value := match o with | none => .tuple #[.string ⟨#[]⟩, .int .i64 0] | some p => .tuple #[.string ⟨p.1.toArray⟩, .int .i64 (p.2 : Int)]
theorem wraps_i64 (n : Int) (h0 : 0 ≤ n) (h1 : n < 9223372036854775808) : IntKind.i64.wrap n = n := by rw [IntKind.wrap_i64]; omega
theorem hex_byte (a b : Nat) (ha : a < 16) (hb : b < 16) : ((UInt8.ofNat (16 * a + b)).toNat : Int) = 16 * (a : Int) + (b : Int) := by
 rw [byte_of a b ha hb]; omega
set_option maxHeartbeats 4000000 in
set_option maxRecDepth 100000 in
theorem l1Quoted_any (s : ByteArray) (w : World) (hs : s.size ≤ 1048576) : Calls Tryz.prog 103 #[.string s] w fun e w' => e = .returned (qR (unq s.data.toList)) ∧ Below w.heap.size w w' := by
 obtain ⟨i0, hi, hz0, hz1, hz2⟩ := info_parts info5
 rw [← Uq_zero]
 generalize hR : Uq s.data.toList 0 [] = R
 have HR : Hid (Uq s.data.toList 0 [] = R) := hR
 clear hR
 go_enter Tryz.func103, Tryz.ntmps103
 go_wp2
 go_loopw [4, 5] (fun v i wr => ∃ (k : Nat) (acc : List UInt8), k ≤ s.size ∧ acc.length ≤ k ∧ i = .int .i64 k ∧ wr.ownsRow w.heap.size 5 1 v acc.length (Lib.byteCells acc) ∧ Below w.heap.size w wr ∧ Hid (Uq s.data.toList k acc = R)) (fun _ i _ => s.size - (intOf i).toNat)
 case atStart => exact ⟨0, [], by omega, by simp, rfl, World.ownsRow_lit w #[] 0 (Nat.le_refl _) (by decide) rfl, (Below.refl _ _).alloc (Nat.le_refl _) _, HR⟩
 case round =>
  obtain ⟨k, acc, hk, hal, rfl, hown, hbw, hU⟩ := hrel
  have hsz := hbw.size
  clear HR
  by_cases hlt : k < s.size
  ·by_cases h34 : s[k].toNat = 34
   ·have h34' : ((s[k].toNat : Int) == 34) = true := by rw [beq_iff_eq]; omega
    have HF : Hid (R = some (acc, k + 1)) := by show _ = _; rw [← hU.out]; exact Uq_mark s k acc hlt h34
    clear hU h34
    have hcv := conv_own wr _ _ _ _ hown
    go_wp2
    go_ret2
    exact ⟨ret_val (by rw [HF.out]; rfl), hbw⟩
   ·have h34' : ((s[k].toNat : Int) == 34) = false := by rw [beq_eq_false_iff_ne]; omega
    by_cases h92 : s[k].toNat = 92
    ·have h92' : ((s[k].toNat : Int) == 92) = true := by rw [beq_iff_eq]; omega
     by_cases h2 : k + 2 < s.size
     ·have h2' : ¬ (s.size : Int) ≤ (k : Int) + 2 := by omega
      have HH := Uq_hex s k acc h2 h92
      rw [hU.out] at HH
      clear h92 h34 hU
      by_cases ha : hexV (s[k + 1]'(by omega)) < 16
      ·by_cases hb : hexV (s[k + 2]'(by omega)) < 16
       ·rw [if_pos ⟨ha, hb⟩] at HH
        have HU : Hid (Uq s.data.toList (k + 3) (acc ++ [UInt8.ofNat (16 * hexV (s[k + 1]'(by omega)) + hexV (s[k + 2]'(by omega)))]) = R) := HH.symm
        have HB : Hid _ := hex_byte _ _ ha hb
        have e1 := hexI_lt ha
        have e2 := hexI_lt hb
        clear HH
        generalize hexV (s[k + 1]'(by omega)) = a at *
        generalize hexV (s[k + 2]'(by omega)) = b at *
        go_wp2_with (go_at_call 171; refine (l1Hex_any _ _).mono ?_; rintro e wr ⟨rfl, rfl⟩)
        have q1 : IntKind.i64.wrap ((k : Int) + 1) = (k : Int) + 1 := wraps_i64 _ (by omega) (by omega)
        have q2 : IntKind.i64.wrap ((k : Int) + 2) = (k : Int) + 2 := wraps_i64 _ (by omega) (by omega)
        have q3 : IntKind.i64.wrap (16 * (a : Int)) = 16 * (a : Int) := wraps_i64 _ (by omega) (by omega)
        have q4 : IntKind.i64.wrap (16 * (a : Int) + (b : Int)) = 16 * (a : Int) + (b : Int) := wraps_i64 _ (by omega) (by omega)
        have q5 : IntKind.u8.wrap (16 * (a : Int) + (b : Int)) = 16 * (a : Int) + (b : Int) := wraps_u8 _ (by omega) (by omega)
        have r1 : (0 : Int) ≤ (k : Int) + 1 := by omega
        have r2 : (k : Int) + 1 < (s.size : Int) := by omega
        have r3 : (0 : Int) ≤ (k : Int) + 2 := by omega
        have r4 : (k : Int) + 2 < (s.size : Int) := by omega
        have t1 : ((k : Int) + 1).toNat = k + 1 := by omega
        have t2 : ((k : Int) + 2).toNat = k + 2 := by omega
        go_region_held3 (fun _ => True) (first | trivial | exact True.intro)
         (first
           | (go_at_call 171; refine (l1Hex_any _ _).mono ?_; rintro e wx ⟨rfl, rfl⟩)
           | (refine step_append_lies _ (by rfl) _ _ _ (by rfl) w.heap.size 5 i0 (.int .u8 0) 1 1 Tryz.underlying93 hi hz0 hz1 hz2 rfl (by decide) _ acc.length (Lib.byteCells acc) (by rfl) ((hown.alloc _).drew) ⟨wr.heap.size, 0, none⟩ 1 1 [.int .u8 (16 * (a : Int) + (b : Int))] (by rfl) (by rfl) (World.news_of_block (cs := #[.int .u8 (16 * (a : Int) + (b : Int))]) (t := 5) (fr := (0, 0)) (heap_alloc_new wr _)) (by simp [Value.oneCell']) (by omega) (by unfold maxLen; omega) (by omega) (by simp; omega) (wr.heap.size + 1) (by simp) ?_; intro g cap w1 hown1 hgrow hat hlt1))
        all_goals
         clear q1 q2 q3 q4 q5
         go_wp2
         go_roundw
         case rel =>
          refine ⟨k + 3, acc ++ [UInt8.ofNat (16 * a + b)], by omega, by simp; omega, by go_num, ?_, ((hbw.alloc (by omega) _).drew).grown hgrow (by simp; omega) (fun k hk => (hown.lt k hk).1), HU⟩
          rw [Lib.byteCells_append, List.length_append, show Lib.byteCells [UInt8.ofNat (16 * a + b)] = [.int .u8 (16 * (a : Int) + (b : Int))] from by simp only [Lib.byteCells, List.map_cons, List.map_nil, HB.out]]; exact hown1
         case measure => simp [intOf]; omega
       ·rw [if_neg (fun h => hb h.2)] at HH
        have HF : Hid (R = none) := HH
        have e1 := hexI_lt ha
        have e2 := hexI_ge hb
        clear HH hb
        generalize hexV (s[k + 1]'(by omega)) = a at *
        go_wp2_with (go_at_call 171; refine (l1Hex_any _ _).mono ?_; rintro e wr ⟨rfl, rfl⟩)
        go_ret2
        exact ⟨ret_val (by rw [HF.out]; rfl), hbw⟩
      ·rw [if_neg (fun h => ha h.1)] at HH
       have HF : Hid (R = none) := HH
       have e1 := hexI_ge ha
       clear HH ha
       go_wp2_with (go_at_call 171; refine (l1Hex_any _ _).mono ?_; rintro e wr ⟨rfl, rfl⟩)
       go_ret2
       exact ⟨ret_val (by rw [HF.out]; rfl), hbw⟩
     ·have h2' : (s.size : Int) ≤ (k : Int) + 2 := by omega
      have HF : Hid (R = none) := by show _ = _; rw [← hU.out]; exact Uq_short s k acc hlt h92 h2
      clear hU h34 h92
      go_wp2
      go_ret2
      exact ⟨ret_val (by rw [HF.out]; rfl), hbw⟩
    ·have h92' : ((s[k].toNat : Int) == 92) = false := by rw [beq_eq_false_iff_ne]; omega
     cases hp : plainB s[k]
     ·have HF : Hid (R = none) := by show _ = _; rw [← hU.out]; exact Uq_none s k acc hlt hp h34 h92
      have hp' : (s[k].toNat : Int) < 32 ∨ (32 ≤ (s[k].toNat : Int) ∧ 126 < (s[k].toNat : Int)) := by
       by_cases h : 32 ≤ s[k].toNat ∧ s[k].toNat ≤ 126
       ·rw [plainB_mk (by omega)] at hp; exact Bool.noConfusion hp
       ·omega
      clear hU h34 h92 hp
      rcases hp' with p1 | ⟨p1, p2⟩
      all_goals
       go_wp2
       go_ret2
       exact ⟨ret_val (by rw [HF.out]; rfl), hbw⟩
     ·have hp' := plainB_true hp
      have HU : Hid (Uq s.data.toList (k + 1) (acc ++ [s[k]]) = R) := by show _ = _; rw [← hU.out]; exact (Uq_plain s k acc hlt hp).symm
      have p1 : 32 ≤ (s[k].toNat : Int) := by omega
      have p2 : (s[k].toNat : Int) ≤ 126 := by omega
      clear hU h34 h92 hp hp'
      go_wp2_with (at_builtin; refine wpList_append_lies _ rfl _ _ 93 rfl w.heap.size 5 i0 (.int .u8 0) 1 1 Tryz.underlying93 hi hz0 hz1 hz2 rfl (by decide) _ acc.length _ rfl (hown.alloc _) ⟨wr.heap.size, 0, none⟩ 1 1 [.int .u8 (s[k].toNat : Int)] rfl rfl (news1 wr _ 5) ?c2 (by decide) ?c3 ?c4 ?c5 (wr.heap.size + 1) (by simp) ?_)
      case c2 => intro u hu; simp at hu; subst hu; rfl
      case c3 => unfold maxLen; omega
      case c4 => omega
      case c5 => simp; omega
      intro g cap w1 hown1 hgrow hat hlt1
      go_wp2
      go_roundw
      case rel =>
       refine ⟨k + 1, acc ++ [s[k]], by omega, by simp; omega, by go_num, ?_, (hbw.alloc (by omega) _).grown hgrow (by simp; omega) (fun k hk => (hown.lt k hk).1), HU⟩
       rw [Lib.byteCells_append, List.length_append]; exact hown1
      case measure => simp [intOf]; omega
  ·have HF : Hid (R = none) := by show _ = _; rw [← hU.out]; exact Uq_end s k acc hlt
   clear hU
   go_wp2
   go_ret2
   exact ⟨ret_val (by rw [HF.out]; rfl), hbw⟩
end Go.Proofs.YtpdahhnjhggocabGreatDoor
