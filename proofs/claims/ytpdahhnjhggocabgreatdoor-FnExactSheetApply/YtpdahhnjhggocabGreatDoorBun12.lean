import Derived.Test.YtpdahhnjhggocabGreatDoorBun10
import Derived.Test.YtpdahhnjhggocabGreatDoorBun5
import Derived.Deep.RegionWith
namespace Go.Proofs.YtpdahhnjhggocabGreatDoor
open Go.RowKit
open Go.Lib (decDigits)
theorem dec_byte (d : Nat) (h : d < 10) : ((UInt8.ofNat (48 + d)).toNat : Int) = 48 + (d : Int) := by rw [dig_of d h]; omega
theorem conv_kept {w w1 : World} {d : Int} (c : UInt8) (hd : (c.toNat : Int) = d) (b : Below (w.alloc (.cells #[.int .u8 d] 5)).drew.heap.size (w.alloc (.cells #[.int .u8 d] 5)).drew w1) : (convert 93 9 (.slice (some ⟨w.heap.size, 0, none⟩) 1 1)).run Tryz.prog w1 = .ok (.string ⟨#[c]⟩) w1 := by
 subst hd
 exact conv_own _ _ w.heap.size [c] 1 (own_below (World.ownsRow_lit w #[.int .u8 (c.toNat : Int)] 1 (Nat.le_refl _) (by decide) rfl).drew b)
set_option maxHeartbeats 1000000 in
set_option maxRecDepth 100000 in
theorem l2Dec_any (n : Nat) : ∀ (w : World), n ≤ 9999999 → Calls Tryz.prog 166 #[.int .i64 (n : Int)] w fun e w' => e = .returned (.string ⟨(decDigits n).toArray⟩) ∧ Below w.heap.size w w' := by
 induction n using Nat.strongRecOn with
 | _ n ih =>
 intro w hn
 by_cases h : n < 10
 ·have hcv := conv_one w (UInt8.ofNat (48 + n))
  rw [dec_byte n h] at hcv
  have hneg : ¬ ((n : Int) < 0) := by omega
  have hlt : (n : Int) < 10 := by omega
  rw [decDigits, dif_pos h]
  go_enter Tryz.func166, Tryz.ntmps166
  go_wp2
  go_ret
  exact ⟨rfl, (Below.refl _ w).alloc (Nat.le_refl _) _⟩
 ·have hneg : ¬ ((n : Int) < 0) := by omega
  have hlt : ¬ ((n : Int) < 10) := by omega
  have HI := fun W => ih (n / 10) (by omega) W (by omega)
  rw [show ((n / 10 : Nat) : Int) = (n : Int) / 10 from by omega] at HI
  have hcv := fun W => conv_one W (UInt8.ofNat (48 + n % 10))
  have hby := dec_byte (n % 10) (by omega)
  rw [hby] at hcv
  rw [show ((n % 10 : Nat) : Int) = (n : Int) % 10 from by omega] at hcv hby
  rw [decDigits, dif_neg h]
  have hDl : (decDigits (n / 10)).length ≤ 7 := by rw [Lib.decDigits_length]; exact nDigits_max _ (by omega)
  generalize decDigits (n / 10) = D at HI hDl ⊢
  generalize UInt8.ofNat (48 + n % 10) = c at hcv hby ⊢
  have hcv3 := conv_kept (w := w) _ hby (Below.refl _ _)
  have hw1 : IntKind.i64.wrap ((n : Int) / 10) = (n : Int) / 10 := by rw [IntKind.wrap_i64]; omega
  have hm : (n : Int).tmod 10 = (n : Int) % 10 := Int.tmod_eq_emod_of_nonneg (by omega)
  have hw2 : IntKind.i64.wrap (48 + (n : Int) % 10) = 48 + (n : Int) % 10 := by rw [IntKind.wrap_i64]; omega
  have hw3 : IntKind.u8.wrap (48 + (n : Int) % 10) = 48 + (n : Int) % 10 := by rw [IntKind.wrap_u8]; omega
  go_enter Tryz.func166, Tryz.ntmps166
  go_wp2
  go_region_with (first | (go_at_call 166; refine (HI _).mono ?_; rintro e w1 ⟨rfl, b1⟩; have hcv2 := conv_kept _ hby b1) | (go_at_call 166; refine (HI _).mono ?_; rintro e w1 ⟨rfl, b1⟩))
  all_goals
   go_wp2
   go_ret
   refine ⟨ret_val (congrArg Value.string (cat_bytes D [c])), ?_⟩
   first
    | exact ((Below.refl w.heap.size w).drew.trans b1).alloc b1.size _
    | exact ((Below.refl w.heap.size w).alloc (Nat.le_refl _) _).drew.trans (b1.mono (by simp))
end Go.Proofs.YtpdahhnjhggocabGreatDoor
namespace Go.Proofs.YtpdahhnjhggocabGreatDoor
open Go.RowKit
open Go.Lib (decDigits)
theorem all_snocP (p : UInt8 → Bool) (s : ByteArray) (k : Nat) (h : k < s.size) : (s.data.toList.take (k + 1)).all p = ((s.data.toList.take k).all p && p s[k]) := by
 rw [take_snoc s k h, List.all_append]; simp
theorem all_no (p : UInt8 → Bool) (s : ByteArray) (k : Nat) (hk : k < s.size) (h : p s[k] = false) : s.data.toList.all p = false := by
 rw [List.all_eq_false]
 exact ⟨s[k], by simp [ByteArray.getElem_eq_getElem_data], by simp [h]⟩
theorem val_lt (l : List UInt8) (hd : l.all isDig = true) (a n : Nat) (ha : a < 10 ^ n) : valFrom a l < 10 ^ (n + l.length) := by
 induction l generalizing a n with
 | nil => rw [valFrom_nil]; simpa using ha
 | cons c l ih =>
  simp only [List.all_cons, Bool.and_eq_true, isDig, decide_eq_true_eq] at hd
  rw [valFrom_cons, List.length_cons, show n + (l.length + 1) = (n + 1) + l.length from by omega]
  exact ih hd.2 _ _ (by rw [Nat.pow_succ]; omega)
theorem val_max (s : ByteArray) (k : Nat) (hs : s.size ≤ 7) (hd : (s.data.toList.take k).all isDig = true) : valL (s.data.toList.take k) ≤ 9999999 := by
 have h := val_lt _ hd 0 0 (by decide)
 have e : s.data.toList.length = s.size := by simp
 have hl : (s.data.toList.take k).length ≤ 7 := by rw [List.length_take, e]; omega
 have h2 : 10 ^ (0 + (s.data.toList.take k).length) ≤ 10 ^ 7 := Nat.pow_le_pow_right (by decide) (by omega)
 unfold valL
 omega
theorem val_snoc (s : ByteArray) (k : Nat) (h : k < s.size) : valL (s.data.toList.take (k + 1)) = valL (s.data.toList.take k) * 10 + (s[k].toNat - 48) := by
 unfold valL
 rw [take_snoc s k h, valFrom_append, valFrom_cons, valFrom_nil]
theorem numB_len (s : ByteArray) (h : ¬ (1 ≤ s.size ∧ s.size ≤ 7)) : numB s.data.toList = false := by
 have : s.data.toList.length = s.size := by simp
 unfold numB
 rw [this]
 by_cases h1 : 1 ≤ s.size
 ·simp [h1, show ¬ s.size ≤ 7 from fun h2 => h ⟨h1, h2⟩]
 ·simp [h1]
theorem numB_dig (s : ByteArray) (h : s.data.toList.all isDig = false) : numB s.data.toList = false := by
 unfold numB; rw [h]; simp
theorem numB_all (s : ByteArray) (h1 : 1 ≤ s.size) (h2 : s.size ≤ 7) (h : s.data.toList.all isDig = true) (a : Nat) (ha : valL s.data.toList = a) : numB s.data.toList = (decDigits a == s.data.toList && decide (a ≤ 1000000)) := by
 have : s.data.toList.length = s.size := by simp
 unfold numB
 rw [h, ha, this]; simp [h1, h2]
theorem num_yes {s : ByteArray} {a : Nat} {x : Bool} (hx : x = (decDigits a == s.data.toList && decide (a ≤ 1000000))) (h : decDigits a = s.toList) : decide ((a : Int) ≤ 1000000) = x := by
 rw [hx, h, ByteArray.toList_eq]; simp; omega
theorem num_no {s : ByteArray} {a : Nat} {x : Bool} (hx : x = (decDigits a == s.data.toList && decide (a ≤ 1000000))) (h : ¬ decDigits a = s.toList) : false = x := by
 rw [ByteArray.toList_eq] at h
 rw [hx, beq_eq_false_iff_ne.2 h]; rfl
set_option maxHeartbeats 1000000 in
set_option maxRecDepth 100000 in
theorem l2NumberOk_any (s : ByteArray) (w : World) (hs : s.size ≤ 1048576) : Calls Tryz.prog 228 #[.string s] w fun e w' => e = .returned (.bool (numB s.data.toList)) ∧ Below w.heap.size w w' := by
 by_cases h1 : 1 ≤ s.size
 ·by_cases h2 : s.size ≤ 7
  ·have h1' : (1 : Int) ≤ (s.size : Int) := by omega
   have h2' : (s.size : Int) ≤ 7 := by omega
   go_enter Tryz.func228, Tryz.ntmps228
   go_wp2
   go_loop [3, 4] (fun x i => ∃ k a : Nat, k ≤ s.size ∧ a ≤ 9999999 ∧ x = .int .i64 (a : Int) ∧ i = .int .i64 (k : Int) ∧ Hid ((s.data.toList.take k).all isDig = true) ∧ Hid (valL (s.data.toList.take k) = a)) (fun _ i => s.size - (intOf i).toNat)
   case atStart => exact ⟨0, 0, Nat.zero_le _, by omega, rfl, rfl, by show _ = _; simp, by show _ = _; simp [valL, valFrom_nil]⟩
   case round =>
    obtain ⟨k, a, hk, ha, rfl, rfl, hA, hV⟩ := hrel
    by_cases hlt : k < s.size
    ·have hc : s[k].toNat < 256 := s[k].toNat_lt
     by_cases hd : 48 ≤ s[k].toNat ∧ s[k].toNat ≤ 57
     ·have hb : isDig s[k] = true := by unfold isDig; simp [hd]
      have HA : Hid ((s.data.toList.take (k + 1)).all isDig = true) := by show _ = _; rw [all_snocP isDig s k hlt, hA.out, hb]; rfl
      have HV : Hid (valL (s.data.toList.take (k + 1)) = a * 10 + (s[k].toNat - 48)) := by show _ = _; rw [val_snoc s k hlt, hV.out]
      have hmx := val_max s (k + 1) h2 HA.out
      rw [HV.out] at hmx
      have d1 : ¬ ((s[k].toNat : Int) < 48) := by omega
      have d2 : ¬ ((57 : Int) < (s[k].toNat : Int)) := by omega
      clear hA hV hb
      go_wp2
      go_round
      case rel => exact ⟨k + 1, a * 10 + (s[k].toNat - 48), by omega, hmx, by go_num, by go_num, HA, HV⟩
      case measure => simp [intOf]; omega
     ·have hb : isDig s[k] = false := by unfold isDig; rw [Bool.and_eq_false_iff]; simp; omega
      have HB : Hid (numB s.data.toList = false) := numB_dig s (all_no isDig s k hlt hb)
      clear hA hV hb
      go_wp2
      all_goals
       go_ret
       exact ⟨ret_bool HB.out.symm, Below.refl _ _⟩
    ·obtain rfl : k = s.size := by omega
     have HB : Hid (numB s.data.toList = (decDigits a == s.data.toList && decide (a ≤ 1000000))) := by
      have e : s.data.toList.take s.size = s.data.toList := take_all s
      exact numB_all s h1 h2 (by rw [← e]; exact hA.out) a (by rw [← e]; exact hV.out)
     clear hA hV
     go_wp2_with (go_at_call 166; refine (l2Dec_any a _ ha).mono ?_; rintro e w1 ⟨rfl, b1⟩)
     ·go_ret
      exact ⟨ret_bool (num_yes HB.out ‹_›), b1⟩
     ·go_ret
      exact ⟨ret_bool (num_no HB.out ‹_›), b1⟩
  ·have h2' : ¬ ((s.size : Int) ≤ 7) := by omega
   have h1' : (1 : Int) ≤ (s.size : Int) := by omega
   have HB : Hid (numB s.data.toList = false) := numB_len s (by omega)
   go_enter Tryz.func228, Tryz.ntmps228
   go_wp2
   go_ret
   exact ⟨ret_bool HB.out.symm, Below.refl _ _⟩
 ·have h1' : ¬ ((1 : Int) ≤ (s.size : Int)) := by omega
  have HB : Hid (numB s.data.toList = false) := numB_len s (by omega)
  go_enter Tryz.func228, Tryz.ntmps228
  go_wp2
  go_ret
  exact ⟨ret_bool HB.out.symm, Below.refl _ _⟩
def nameByte (c : UInt8) : Bool := (decide (97 ≤ c.toNat) && decide (c.toNat ≤ 122)) || (decide (48 ≤ c.toNat) && decide (c.toNat ≤ 57)) || decide (c.toNat = 45)
def nameB (l : List UInt8) : Bool := l.all nameByte && (decide (1 ≤ l.length) && decide (l.length ≤ 20))
theorem nameByte_yes {c : UInt8} (h : (97 ≤ c.toNat ∧ c.toNat ≤ 122) ∨ (48 ≤ c.toNat ∧ c.toNat ≤ 57) ∨ c.toNat = 45) : nameByte c = true := by
 unfold nameByte; simp only [Bool.or_eq_true, Bool.and_eq_true, decide_eq_true_eq]; omega
theorem nameByte_no {c : UInt8} (h : ¬ ((97 ≤ c.toNat ∧ c.toNat ≤ 122) ∨ (48 ≤ c.toNat ∧ c.toNat ≤ 57) ∨ c.toNat = 45)) : nameByte c = false := by
 rw [Bool.eq_false_iff]; unfold nameByte; simp only [ne_eq, Bool.or_eq_true, Bool.and_eq_true, decide_eq_true_eq]; omega
theorem nameB_len (s : ByteArray) (h : ¬ (1 ≤ s.size ∧ s.size ≤ 20)) : nameB s.data.toList = false := by
 have e : s.data.toList.length = s.size := by simp
 unfold nameB
 rw [e]
 by_cases h1 : 1 ≤ s.size
 ·simp [h1, show ¬ s.size ≤ 20 from fun h2 => h ⟨h1, h2⟩]
 ·simp [h1]
theorem nameB_no (s : ByteArray) (h : s.data.toList.all nameByte = false) : nameB s.data.toList = false := by unfold nameB; rw [h]; rfl
theorem nameB_all (s : ByteArray) (h : s.data.toList.all nameByte = true) : nameB s.data.toList = (decide (1 ≤ s.size) && decide (s.size ≤ 20)) := by
 have e : s.data.toList.length = s.size := by simp
 unfold nameB; rw [h, e]; rfl
def NamesTo (s : ByteArray) (k : Nat) : Prop := (s.data.toList.take k).all nameByte = true
theorem NamesTo.zero (s : ByteArray) : NamesTo s 0 := by simp [NamesTo]
theorem NamesTo.succ {s : ByteArray} {k : Nat} (h : NamesTo s k) (hk : k < s.size) (hb : nameByte s[k] = true) : NamesTo s (k + 1) := by
 unfold NamesTo at h ⊢; rw [all_snocP nameByte s k hk, h, hb]; rfl
theorem NamesTo.all {s : ByteArray} (h : NamesTo s s.size) : s.data.toList.all nameByte = true := by rw [← take_all s]; exact h
inductive NameCase (c : UInt8) : Bool → Prop
 | letter (h1 : (97 : Int) ≤ (c.toNat : Int)) (h2 : (c.toNat : Int) ≤ 122) : NameCase c true
 | digit (h1 : ¬ (97 : Int) ≤ (c.toNat : Int)) (h2 : (48 : Int) ≤ (c.toNat : Int)) (h3 : (c.toNat : Int) ≤ 57) : NameCase c true
 | hyphen (h1 : ¬ (97 : Int) ≤ (c.toNat : Int)) (h2 : ¬ (48 : Int) ≤ (c.toNat : Int)) (h3 : ((c.toNat : Int) == 45) = true) : NameCase c true
 | low (h1 : ¬ (97 : Int) ≤ (c.toNat : Int)) (h2 : ¬ (48 : Int) ≤ (c.toNat : Int)) (h3 : ((c.toNat : Int) == 45) = false) : NameCase c false
 | mid (h1 : ¬ (97 : Int) ≤ (c.toNat : Int)) (h2 : (48 : Int) ≤ (c.toNat : Int)) (h3 : ¬ (c.toNat : Int) ≤ 57) (h4 : ((c.toNat : Int) == 45) = false) : NameCase c false
 | high (h1 : (97 : Int) ≤ (c.toNat : Int)) (h2 : ¬ (c.toNat : Int) ≤ 122) (h3 : (48 : Int) ≤ (c.toNat : Int)) (h4 : ¬ (c.toNat : Int) ≤ 57) (h5 : ((c.toNat : Int) == 45) = false) : NameCase c false
theorem nameCase (c : UInt8) : NameCase c (nameByte c) := by
 by_cases a1 : 97 ≤ c.toNat
 ·by_cases a2 : c.toNat ≤ 122
  ·rw [nameByte_yes (by omega)]; exact .letter (by omega) (by omega)
  ·rw [nameByte_no (by omega)]; exact .high (by omega) (by omega) (by omega) (by omega) (by rw [beq_eq_false_iff_ne]; omega)
 ·by_cases b1 : 48 ≤ c.toNat
  ·by_cases b2 : c.toNat ≤ 57
   ·rw [nameByte_yes (by omega)]; exact .digit (by omega) (by omega) (by omega)
   ·rw [nameByte_no (by omega)]; exact .mid (by omega) (by omega) (by omega) (by rw [beq_eq_false_iff_ne]; omega)
  ·by_cases c1 : c.toNat = 45
   ·rw [nameByte_yes (by omega)]; exact .hyphen (by omega) (by omega) (by rw [beq_iff_eq]; omega)
   ·rw [nameByte_no (by omega)]; exact .low (by omega) (by omega) (by rw [beq_eq_false_iff_ne]; omega)
set_option maxHeartbeats 1000000 in
set_option maxRecDepth 100000 in
theorem l2NameOk_any (s : ByteArray) (w : World) (hs : s.size ≤ 1048576) : Calls Tryz.prog 108 #[.string s] w fun e w' => e = .returned (.bool (nameB s.data.toList)) ∧ w' = w := by
 by_cases h1 : 1 ≤ s.size
 ·by_cases h2 : s.size ≤ 20
  ·have h1' : (1 : Int) ≤ (s.size : Int) := by omega
   have h2' : (s.size : Int) ≤ 20 := by omega
   go_enter Tryz.func108, Tryz.ntmps108
   go_wp2
   go_loop [3, 4] (fun i _ => ∃ k : Nat, k ≤ s.size ∧ i = .int .i64 (k : Int) ∧ NamesTo s k) (fun i _ => s.size - (intOf i).toNat)
   case atStart => exact ⟨0, Nat.zero_le _, rfl, NamesTo.zero s⟩
   case round =>
    obtain ⟨k, hk, rfl, hA⟩ := hrel
    by_cases hlt : k < s.size
    ·have hc : s[k].toNat < 256 := s[k].toNat_lt
     have hcase := nameCase s[k]
     cases hb : nameByte s[k]
     ·have HB : Hid (nameB s.data.toList = false) := nameB_no s (all_no nameByte s k hlt hb)
      rw [hb] at hcase
      clear hA hb
      cases hcase
      all_goals
       go_wp2
       go_ret
       exact ⟨ret_bool HB.out.symm, rfl⟩
     ·have HA := hA.succ hlt hb
      rw [hb] at hcase
      clear hA hb
      cases hcase
      all_goals
       go_wp2
       go_round
       case rel => exact ⟨k + 1, by omega, by go_num, HA⟩
       case measure => simp [intOf]; omega
    ·obtain rfl : k = s.size := by omega
     have HB : Hid (nameB s.data.toList = true) := by show _ = _; rw [nameB_all s hA.all]; simp [h1, h2]
     clear hA
     go_wp2
     go_ret
     exact ⟨ret_bool HB.out.symm, rfl⟩
  ·have h2' : ¬ ((s.size : Int) ≤ 20) := by omega
   have h1' : (1 : Int) ≤ (s.size : Int) := by omega
   have HB : Hid (nameB s.data.toList = false) := nameB_len s (by omega)
   go_enter Tryz.func108, Tryz.ntmps108
   go_wp2
   go_ret
   exact ⟨ret_bool HB.out.symm, rfl⟩
 ·have h1' : ¬ ((1 : Int) ≤ (s.size : Int)) := by omega
  have HB : Hid (nameB s.data.toList = false) := nameB_len s (by omega)
  go_enter Tryz.func108, Tryz.ntmps108
  go_wp2
  go_ret
  exact ⟨ret_bool HB.out.symm, rfl⟩
end Go.Proofs.YtpdahhnjhggocabGreatDoor
namespace Go.Proofs.YtpdahhnjhggocabGreatDoor
open Go.RowKit
def yesB (l : List UInt8) : Bool := l == [121, 101, 115] || l == [110, 111]
def apartB (l : List UInt8) : Bool := l == [110, 111, 110, 101] || l == [98, 101, 114, 116, 104] || l == [122, 111, 110, 101]
def fitsB (t : Int) (l : List UInt8) : Bool :=
 if t = 1 then numB l else if t = 2 then signB l else if t = 3 then nameB l else if t = 4 then decide (l.length ≤ 200) else if t = 5 then yesB l else apartB l
theorem six {t : Int} (h1 : 1 ≤ t) (h6 : t ≤ 6) : t = 1 ∨ t = 2 ∨ t = 3 ∨ t = 4 ∨ t = 5 ∨ t = 6 := by omega
theorem l2Fits_1 (s : ByteArray) (w : World) (hs : s.size ≤ 1048576) : Calls Tryz.prog 172 #[.int .i64 1, .string s] w fun e w' => e = .returned (.bool (numB s.data.toList)) ∧ Below w.heap.size w w' := by
 go_enter Tryz.func172, Tryz.ntmps172
 go_wp2_with (go_at_call 228; refine (l2NumberOk_any s _ hs).mono ?_; rintro e w1 ⟨rfl, b1⟩)
 go_ret
 exact ⟨rfl, b1⟩
theorem l2Fits_3 (s : ByteArray) (w : World) (hs : s.size ≤ 1048576) : Calls Tryz.prog 172 #[.int .i64 3, .string s] w fun e w' => e = .returned (.bool (nameB s.data.toList)) ∧ Below w.heap.size w w' := by
 go_enter Tryz.func172, Tryz.ntmps172
 go_wp2_with (go_at_call 108; refine (l2NameOk_any s _ hs).mono ?_; rintro e w ⟨rfl, rfl⟩)
 go_ret
 exact ⟨rfl, Below.refl _ _⟩
theorem l2Fits_4 (s : ByteArray) (w : World) : Calls Tryz.prog 172 #[.int .i64 4, .string s] w fun e w' => e = .returned (.bool (decide (s.data.toList.length ≤ 200))) ∧ Below w.heap.size w w' := by
 have e : s.data.toList.length = s.size := by simp
 rw [e]
 go_enter Tryz.func172, Tryz.ntmps172
 go_wp2
 go_ret
 exact ⟨ret_bool (decide_eq_decide.2 (by omega)), Below.refl _ _⟩
theorem l2Fits_5 (s : ByteArray) (w : World) : Calls Tryz.prog 172 #[.int .i64 5, .string s] w fun e w' => e = .returned (.bool (yesB s.data.toList)) ∧ Below w.heap.size w w' := by
 rw [← ByteArray.toList_eq]
 generalize hL : s.toList = L
 by_cases h1 : L = [121, 101, 115]
 ·have h1' : (s.toList == [121, 101, 115]) = true := by rw [hL, beq_iff_eq]; exact h1
  have HB : yesB L = true := by subst h1; decide
  go_enter Tryz.func172, Tryz.ntmps172
  go_wp2
  go_ret
  exact ⟨ret_bool HB.symm, Below.refl _ _⟩
 ·have h1' : (s.toList == [121, 101, 115]) = false := by rw [hL, beq_eq_false_iff_ne]; exact h1
  go_enter Tryz.func172, Tryz.ntmps172
  go_wp2
  go_ret
  exact ⟨ret_bool rfl, Below.refl _ _⟩
theorem l2Fits_6 (s : ByteArray) (w : World) : Calls Tryz.prog 172 #[.int .i64 6, .string s] w fun e w' => e = .returned (.bool (apartB s.data.toList)) ∧ Below w.heap.size w w' := by
 rw [← ByteArray.toList_eq]
 generalize hL : s.toList = L
 by_cases h1 : L = [110, 111, 110, 101]
 ·have h1' : (s.toList == [110, 111, 110, 101]) = true := by rw [hL, beq_iff_eq]; exact h1
  have HB : apartB L = true := by subst h1; decide
  go_enter Tryz.func172, Tryz.ntmps172
  go_wp2
  go_ret
  exact ⟨ret_bool HB.symm, Below.refl _ _⟩
 ·have h1' : (s.toList == [110, 111, 110, 101]) = false := by rw [hL, beq_eq_false_iff_ne]; exact h1
  by_cases h2 : L = [98, 101, 114, 116, 104]
  ·have h2' : (s.toList == [98, 101, 114, 116, 104]) = true := by rw [hL, beq_iff_eq]; exact h2
   have HB : apartB L = true := by subst h2; decide
   go_enter Tryz.func172, Tryz.ntmps172
   go_wp2
   go_ret
   exact ⟨ret_bool HB.symm, Below.refl _ _⟩
  ·have h2' : (s.toList == [98, 101, 114, 116, 104]) = false := by rw [hL, beq_eq_false_iff_ne]; exact h2
   go_enter Tryz.func172, Tryz.ntmps172
   go_wp2
   go_ret
   exact ⟨ret_bool rfl, Below.refl _ _⟩
theorem signB_yes {l : List UInt8} (h : numB l = true) : signB l = true := by unfold signB; rw [h]; rfl
theorem signB_no {l : List UInt8} (h : numB l = false) (h2 : (decide (1 < l.length) && l.head? == some 45 && l.tail != [48]) = false) : signB l = false := by unfold signB; rw [h, h2]; rfl
theorem signB_tail {l : List UInt8} (h : numB l = false) (h2 : (decide (1 < l.length) && l.head? == some 45 && l.tail != [48]) = true) : signB l = numB l.tail := by unfold signB; rw [h, h2]; simp
theorem hid_in {p : Prop} (h : p) : Hid p := h
theorem head_at (s : ByteArray) (h : 0 < s.size) : s.data.toList.head? = some s[0] := by
 have := drop_cons s 0 h
 rw [List.drop_zero] at this
 rw [this]; rfl
theorem l2NumberOk_as (s : ByteArray) (w : World) (hs : s.size ≤ 1048576) (b : Bool) (h : numB s.data.toList = b) : Calls Tryz.prog 228 #[.string s] w fun e w' => e = .returned (.bool b) ∧ Below w.heap.size w w' := by
 rw [← h]; exact l2NumberOk_any s w hs
theorem tail_bytes (s : ByteArray) : (s.extract 1 s.size).data.toList = s.data.toList.tail := by
 rw [bytes_drop]; simp
theorem signB_cut {l : List UInt8} {b : Bool} (h : numB l = false) (h1 : 1 < l.length) (h2 : l.head? = some 45) (h3 : ¬ l.tail = [48]) (hb : numB l.tail = b) : b = signB l := by
 rw [signB_tail h (by rw [h2]; simp [h1, h3]), hb]
theorem signB_zero {l : List UInt8} (h : numB l = false) (h3 : l.tail = [48]) : false = signB l := by
 rw [signB_no h (by rw [h3]; simp)]
theorem signB_short {l : List UInt8} (h : numB l = false) (h1 : ¬ 1 < l.length) : false = signB l := by
 rw [signB_no h (by simp [h1])]
theorem signB_head {l : List UInt8} (h : numB l = false) (h2 : ¬ l.head? = some 45) : false = signB l := by
 rw [signB_no h (by simp [h2])]
set_option maxHeartbeats 1000000 in
set_option maxRecDepth 100000 in
theorem l2Fits_2 (s : ByteArray) (w : World) (hs : s.size ≤ 1048576) : Calls Tryz.prog 172 #[.int .i64 2, .string s] w fun e w' => e = .returned (.bool (signB s.data.toList)) ∧ Below w.heap.size w w' := by
 cases hn : numB s.data.toList
 ·by_cases h1 : 1 < s.size
  ·have h1' : (1 : Int) < (s.size : Int) := by omega
   have hh := head_at s (by omega)
   have hl : 1 < s.data.toList.length := by
    have el : s.data.toList.length = s.size := by simp
    omega
   have ht := tail_bytes s
   have hxs : (s.extract 1 s.size).size ≤ 1048576 := by rw [ByteArray.size_extract]; omega
   by_cases h2 : s[0].toNat = 45
   ·have h2' : ((s[0].toNat : Int) == 45) = true := by rw [beq_iff_eq]; omega
    have h2'' : s.data.toList.head? = some 45 := by rw [hh]; congr 1; exact UInt8.toNat_inj.1 h2
    by_cases h3 : s.data.toList.tail = [48]
    ·have HB := hid_in (signB_zero hn h3)
     have h3' : ((s.extract 1 s.size).toList == [48]) = true := by rw [ByteArray.toList_eq, ht, h3]; rfl
     have H1 := fun W => l2NumberOk_as s W hs false hn
     clear hh h2'' h3 ht hn hl
     go_enter Tryz.func172, Tryz.ntmps172
     go_wp2_with (go_at_call 228; refine (H1 _).mono ?_; rintro e w1 ⟨rfl, b1⟩)
     go_ret
     exact ⟨ret_bool HB.out, b1⟩
    ·have h3' : ((s.extract 1 s.size).toList == [48]) = false := by rw [ByteArray.toList_eq, ht, beq_eq_false_iff_ne]; exact h3
     cases hm : numB s.data.toList.tail
     all_goals
      have HB := hid_in (signB_cut hn hl h2'' h3 hm)
      have H1 := fun W => l2NumberOk_as s W hs false hn
      have H2 := fun W => l2NumberOk_as (s.extract 1 s.size) W hxs _ (ht ▸ hm)
      clear hh h2'' h3 ht hn hl hm
      go_enter Tryz.func172, Tryz.ntmps172
      go_wp2_with (go_at_call 228; refine (H1 _).mono ?_)
      rintro e w1 ⟨rfl, b1⟩
      go_wp2_with (go_at_call 228; refine (H2 _).mono ?_)
      rintro e w2 ⟨rfl, b2⟩
      go_wp2
      go_ret
      exact ⟨ret_bool HB.out, b1.trans (b2.mono b1.size)⟩
   ·have h2' : ((s[0].toNat : Int) == 45) = false := by rw [beq_eq_false_iff_ne]; omega
    have HB := hid_in (signB_head hn (by rw [hh]; intro h; exact h2 (by rw [Option.some.inj h]; rfl)))
    have H1 := fun W => l2NumberOk_as s W hs false hn
    clear hh ht hn hl
    go_enter Tryz.func172, Tryz.ntmps172
    go_wp2_with (go_at_call 228; refine (H1 _).mono ?_; rintro e w1 ⟨rfl, b1⟩)
    go_ret
    exact ⟨ret_bool HB.out, b1⟩
  ·have h1' : ¬ ((1 : Int) < (s.size : Int)) := by omega
   have HB := hid_in (signB_short hn (by rw [Array.length_toList]; exact h1))
   have H1 := fun W => l2NumberOk_as s W hs false hn
   clear hn
   go_enter Tryz.func172, Tryz.ntmps172
   go_wp2_with (go_at_call 228; refine (H1 _).mono ?_; rintro e w1 ⟨rfl, b1⟩)
   go_ret
   exact ⟨ret_bool HB.out, b1⟩
 ·have HB := hid_in (signB_yes hn).symm
  have H1 := fun W => l2NumberOk_as s W hs true hn
  clear hn
  go_enter Tryz.func172, Tryz.ntmps172
  go_wp2_with (go_at_call 228; refine (H1 _).mono ?_; rintro e w1 ⟨rfl, b1⟩)
  go_ret
  exact ⟨ret_bool HB.out, b1⟩
theorem l2Fits_any (t : Int) (h1 : 1 ≤ t) (h6 : t ≤ 6) (s : ByteArray) (w : World) (hs : s.size ≤ 1048576) : Calls Tryz.prog 172 #[.int .i64 t, .string s] w fun e w' => e = .returned (.bool (fitsB t s.data.toList)) ∧ Below w.heap.size w w' := by
 rcases six h1 h6 with rfl | rfl | rfl | rfl | rfl | rfl
 ·exact l2Fits_1 s w hs
 ·exact l2Fits_2 s w hs
 ·exact l2Fits_3 s w hs
 ·exact l2Fits_4 s w
 ·exact l2Fits_5 s w
 ·exact l2Fits_6 s w
end Go.Proofs.YtpdahhnjhggocabGreatDoor
