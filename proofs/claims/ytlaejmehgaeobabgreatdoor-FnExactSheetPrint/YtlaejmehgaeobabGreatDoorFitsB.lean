import Derived.Test.YtlaejmehgaeobabGreatDoorFitsA
namespace Go.Proofs.YtlaejmehgaeobabGreatDoor
open Go.RowKit
open Go.Lib (decDigits)
theorem all_snocP (p : UInt8 → Bool) (s : ByteArray) (k : Nat) (h : k < s.size) : (s.data.toList.take (k + 1)).all p = ((s.data.toList.take k).all p && p s[k]) := by
  rw [take_snoc s k h, List.all_append]; simp
theorem all_no (p : UInt8 → Bool) (s : ByteArray) (k : Nat) (hk : k < s.size) (h : p s[k] = false) : s.data.toList.all p = false := by
  rw [List.all_eq_false]
  exact ⟨s[k], by simp [ByteArray.getElem_eq_getElem_data], by simp [h]⟩
theorem val_lt (l : List UInt8) (hd : l.all isDig = true) (a n : Nat) (ha : a < 10 ^ n) : valFrom a l < 10 ^ (n + l.length) := by
  induction l generalizing a n with
  | nil => rw [valFrom_nil]; simpa using ha
  | cons c l ih =>
    simp only [List.all_cons, Bool.and_eq_true, isDig, decide_eq_true_eq] at hd
    rw [valFrom_cons, List.length_cons, show n + (l.length + 1) = (n + 1) + l.length from by omega]
    exact ih hd.2 _ _ (by rw [Nat.pow_succ]; omega)
theorem val_max (s : ByteArray) (k : Nat) (hs : s.size ≤ 7) (hd : (s.data.toList.take k).all isDig = true) : valL (s.data.toList.take k) ≤ 9999999 := by
  have h := val_lt _ hd 0 0 (by decide)
  have e : s.data.toList.length = s.size := by simp
  have hl : (s.data.toList.take k).length ≤ 7 := by rw [List.length_take, e]; omega
  have h2 : 10 ^ (0 + (s.data.toList.take k).length) ≤ 10 ^ 7 := Nat.pow_le_pow_right (by decide) (by omega)
  unfold valL
  omega
theorem val_snoc (s : ByteArray) (k : Nat) (h : k < s.size) : valL (s.data.toList.take (k + 1)) = valL (s.data.toList.take k) * 10 + (s[k].toNat - 48) := by
  unfold valL
  rw [take_snoc s k h, valFrom_append, valFrom_cons, valFrom_nil]
theorem numB_len (s : ByteArray) (h : ¬ (1 ≤ s.size ∧ s.size ≤ 7)) : numB s.data.toList = false := by
  have : s.data.toList.length = s.size := by simp
  unfold numB
  rw [this]
  by_cases h1 : 1 ≤ s.size
  · simp [h1, show ¬ s.size ≤ 7 from fun h2 => h ⟨h1, h2⟩]
  · simp [h1]
theorem numB_dig (s : ByteArray) (h : s.data.toList.all isDig = false) : numB s.data.toList = false := by
  unfold numB; rw [h]; simp
theorem numB_all (s : ByteArray) (h1 : 1 ≤ s.size) (h2 : s.size ≤ 7) (h : s.data.toList.all isDig = true) (a : Nat) (ha : valL s.data.toList = a) : numB s.data.toList = (decDigits a == s.data.toList && decide (a ≤ 1000000)) := by
  have : s.data.toList.length = s.size := by simp
  unfold numB
  rw [h, ha, this]; simp [h1, h2]
theorem num_yes {s : ByteArray} {a : Nat} {x : Bool} (hx : x = (decDigits a == s.data.toList && decide (a ≤ 1000000))) (h : decDigits a = s.toList) : decide ((a : Int) ≤ 1000000) = x := by
  rw [hx, h, ByteArray.toList_eq]; simp; omega
theorem num_no {s : ByteArray} {a : Nat} {x : Bool} (hx : x = (decDigits a == s.data.toList && decide (a ≤ 1000000))) (h : ¬ decDigits a = s.toList) : false = x := by
  rw [ByteArray.toList_eq] at h
  rw [hx, beq_eq_false_iff_ne.2 h]; rfl
set_option maxHeartbeats 1000000 in
set_option maxRecDepth 100000 in
theorem l2NumberOk_any (s : ByteArray) (w : World) (hs : s.size ≤ 1048576) : Calls Tryz.prog 132 #[.string s] w fun e w' => e = .returned (.bool (numB s.data.toList)) ∧ Below w.heap.size w w' := by
  by_cases h1 : 1 ≤ s.size
  · by_cases h2 : s.size ≤ 7
    · have h1' : (1 : Int) ≤ (s.size : Int) := by omega
      have h2' : (s.size : Int) ≤ 7 := by omega
      go_enter Tryz.func132, Tryz.ntmps132
      go_wp2
      go_loop [3, 4] (fun x i => ∃ k a : Nat, k ≤ s.size ∧ a ≤ 9999999 ∧ x = .int .i64 (a : Int) ∧ i = .int .i64 (k : Int) ∧ Hid ((s.data.toList.take k).all isDig = true) ∧ Hid (valL (s.data.toList.take k) = a)) (fun _ i => s.size - (intOf i).toNat)
      case atStart => exact ⟨0, 0, Nat.zero_le _, by omega, rfl, rfl, by show _ = _; simp, by show _ = _; simp [valL, valFrom_nil]⟩
      case round =>
        obtain ⟨k, a, hk, ha, rfl, rfl, hA, hV⟩ := hrel
        by_cases hlt : k < s.size
        · have hc : s[k].toNat < 256 := s[k].toNat_lt
          by_cases hd : 48 ≤ s[k].toNat ∧ s[k].toNat ≤ 57
          · have hb : isDig s[k] = true := by unfold isDig; simp [hd]
            have HA : Hid ((s.data.toList.take (k + 1)).all isDig = true) := by show _ = _; rw [all_snocP isDig s k hlt, hA.out, hb]; rfl
            have HV : Hid (valL (s.data.toList.take (k + 1)) = a * 10 + (s[k].toNat - 48)) := by show _ = _; rw [val_snoc s k hlt, hV.out]
            have hmx := val_max s (k + 1) h2 HA.out
            rw [HV.out] at hmx
            have d1 : ¬ ((s[k].toNat : Int) < 48) := by omega
            have d2 : ¬ ((57 : Int) < (s[k].toNat : Int)) := by omega
            clear hA hV hb
            go_wp2
            go_round
            case rel => exact ⟨k + 1, a * 10 + (s[k].toNat - 48), by omega, hmx, by go_num, by go_num, HA, HV⟩
            case measure => simp [intOf]; omega
          · have hb : isDig s[k] = false := by unfold isDig; rw [Bool.and_eq_false_iff]; simp; omega
            have HB : Hid (numB s.data.toList = false) := numB_dig s (all_no isDig s k hlt hb)
            clear hA hV hb
            go_wp2
            all_goals
              go_ret
              exact ⟨ret_bool HB.out.symm, Below.refl _ _⟩
        · obtain rfl : k = s.size := by omega
          have HB : Hid (numB s.data.toList = (decDigits a == s.data.toList && decide (a ≤ 1000000))) := by
            have e : s.data.toList.take s.size = s.data.toList := take_all s
            exact numB_all s h1 h2 (by rw [← e]; exact hA.out) a (by rw [← e]; exact hV.out)
          clear hA hV
          go_wp2_with (go_at_call 159; refine (l2Dec_any a _ ha).mono ?_; rintro e w1 ⟨rfl, b1⟩)
          · go_ret
            exact ⟨ret_bool (num_yes HB.out ‹_›), b1⟩
          · go_ret
            exact ⟨ret_bool (num_no HB.out ‹_›), b1⟩
    · have h2' : ¬ ((s.size : Int) ≤ 7) := by omega
      have h1' : (1 : Int) ≤ (s.size : Int) := by omega
      have HB : Hid (numB s.data.toList = false) := numB_len s (by omega)
      go_enter Tryz.func132, Tryz.ntmps132
      go_wp2
      go_ret
      exact ⟨ret_bool HB.out.symm, Below.refl _ _⟩
  · have h1' : ¬ ((1 : Int) ≤ (s.size : Int)) := by omega
    have HB : Hid (numB s.data.toList = false) := numB_len s (by omega)
    go_enter Tryz.func132, Tryz.ntmps132
    go_wp2
    go_ret
    exact ⟨ret_bool HB.out.symm, Below.refl _ _⟩
def nameByte (c : UInt8) : Bool := (decide (97 ≤ c.toNat) && decide (c.toNat ≤ 122)) || (decide (48 ≤ c.toNat) && decide (c.toNat ≤ 57)) || decide (c.toNat = 45)
def nameB (l : List UInt8) : Bool := l.all nameByte && (decide (1 ≤ l.length) && decide (l.length ≤ 20))
theorem nameByte_yes {c : UInt8} (h : (97 ≤ c.toNat ∧ c.toNat ≤ 122) ∨ (48 ≤ c.toNat ∧ c.toNat ≤ 57) ∨ c.toNat = 45) : nameByte c = true := by
  unfold nameByte; simp only [Bool.or_eq_true, Bool.and_eq_true, decide_eq_true_eq]; omega
theorem nameByte_no {c : UInt8} (h : ¬ ((97 ≤ c.toNat ∧ c.toNat ≤ 122) ∨ (48 ≤ c.toNat ∧ c.toNat ≤ 57) ∨ c.toNat = 45)) : nameByte c = false := by
  rw [Bool.eq_false_iff]; unfold nameByte; simp only [ne_eq, Bool.or_eq_true, Bool.and_eq_true, decide_eq_true_eq]; omega
theorem nameB_len (s : ByteArray) (h : ¬ (1 ≤ s.size ∧ s.size ≤ 20)) : nameB s.data.toList = false := by
  have e : s.data.toList.length = s.size := by simp
  unfold nameB
  rw [e]
  by_cases h1 : 1 ≤ s.size
  · simp [h1, show ¬ s.size ≤ 20 from fun h2 => h ⟨h1, h2⟩]
  · simp [h1]
theorem nameB_no (s : ByteArray) (h : s.data.toList.all nameByte = false) : nameB s.data.toList = false := by unfold nameB; rw [h]; rfl
theorem nameB_all (s : ByteArray) (h : s.data.toList.all nameByte = true) : nameB s.data.toList = (decide (1 ≤ s.size) && decide (s.size ≤ 20)) := by
  have e : s.data.toList.length = s.size := by simp
  unfold nameB; rw [h, e]; rfl
/-- The first k bytes are such as a name has. -/
def NamesTo (s : ByteArray) (k : Nat) : Prop := (s.data.toList.take k).all nameByte = true
theorem NamesTo.zero (s : ByteArray) : NamesTo s 0 := by simp [NamesTo]
theorem NamesTo.succ {s : ByteArray} {k : Nat} (h : NamesTo s k) (hk : k < s.size) (hb : nameByte s[k] = true) : NamesTo s (k + 1) := by
  unfold NamesTo at h ⊢; rw [all_snocP nameByte s k hk, h, hb]; rfl
theorem NamesTo.all {s : ByteArray} (h : NamesTo s s.size) : s.data.toList.all nameByte = true := by rw [← take_all s]; exact h
/-- How a byte lies to the letters, the digits and the hyphen, as the tests ask it. -/
inductive NameCase (c : UInt8) : Bool → Prop
  | letter (h1 : (97 : Int) ≤ (c.toNat : Int)) (h2 : (c.toNat : Int) ≤ 122) : NameCase c true
  | digit (h1 : ¬ (97 : Int) ≤ (c.toNat : Int)) (h2 : (48 : Int) ≤ (c.toNat : Int)) (h3 : (c.toNat : Int) ≤ 57) : NameCase c true
  | hyphen (h1 : ¬ (97 : Int) ≤ (c.toNat : Int)) (h2 : ¬ (48 : Int) ≤ (c.toNat : Int)) (h3 : ((c.toNat : Int) == 45) = true) : NameCase c true
  | low (h1 : ¬ (97 : Int) ≤ (c.toNat : Int)) (h2 : ¬ (48 : Int) ≤ (c.toNat : Int)) (h3 : ((c.toNat : Int) == 45) = false) : NameCase c false
  | mid (h1 : ¬ (97 : Int) ≤ (c.toNat : Int)) (h2 : (48 : Int) ≤ (c.toNat : Int)) (h3 : ¬ (c.toNat : Int) ≤ 57) (h4 : ((c.toNat : Int) == 45) = false) : NameCase c false
  | high (h1 : (97 : Int) ≤ (c.toNat : Int)) (h2 : ¬ (c.toNat : Int) ≤ 122) (h3 : (48 : Int) ≤ (c.toNat : Int)) (h4 : ¬ (c.toNat : Int) ≤ 57) (h5 : ((c.toNat : Int) == 45) = false) : NameCase c false
theorem nameCase (c : UInt8) : NameCase c (nameByte c) := by
  by_cases a1 : 97 ≤ c.toNat
  · by_cases a2 : c.toNat ≤ 122
    · rw [nameByte_yes (by omega)]; exact .letter (by omega) (by omega)
    · rw [nameByte_no (by omega)]; exact .high (by omega) (by omega) (by omega) (by omega) (by rw [beq_eq_false_iff_ne]; omega)
  · by_cases b1 : 48 ≤ c.toNat
    · by_cases b2 : c.toNat ≤ 57
      · rw [nameByte_yes (by omega)]; exact .digit (by omega) (by omega) (by omega)
      · rw [nameByte_no (by omega)]; exact .mid (by omega) (by omega) (by omega) (by rw [beq_eq_false_iff_ne]; omega)
    · by_cases c1 : c.toNat = 45
      · rw [nameByte_yes (by omega)]; exact .hyphen (by omega) (by omega) (by rw [beq_iff_eq]; omega)
      · rw [nameByte_no (by omega)]; exact .low (by omega) (by omega) (by rw [beq_eq_false_iff_ne]; omega)
set_option maxHeartbeats 1000000 in
set_option maxRecDepth 100000 in
theorem l2NameOk_any (s : ByteArray) (w : World) (hs : s.size ≤ 1048576) : Calls Tryz.prog 47 #[.string s] w fun e w' => e = .returned (.bool (nameB s.data.toList)) ∧ w' = w := by
  by_cases h1 : 1 ≤ s.size
  · by_cases h2 : s.size ≤ 20
    · have h1' : (1 : Int) ≤ (s.size : Int) := by omega
      have h2' : (s.size : Int) ≤ 20 := by omega
      go_enter Tryz.func47, Tryz.ntmps47
      go_wp2
      go_loop [3, 4] (fun i _ => ∃ k : Nat, k ≤ s.size ∧ i = .int .i64 (k : Int) ∧ NamesTo s k) (fun i _ => s.size - (intOf i).toNat)
      case atStart => exact ⟨0, Nat.zero_le _, rfl, NamesTo.zero s⟩
      case round =>
        obtain ⟨k, hk, rfl, hA⟩ := hrel
        by_cases hlt : k < s.size
        · have hc : s[k].toNat < 256 := s[k].toNat_lt
          have hcase := nameCase s[k]
          cases hb : nameByte s[k]
          · have HB : Hid (nameB s.data.toList = false) := nameB_no s (all_no nameByte s k hlt hb)
            rw [hb] at hcase
            clear hA hb
            cases hcase
            all_goals
              go_wp2
              go_ret
              exact ⟨ret_bool HB.out.symm, rfl⟩
          · have HA := hA.succ hlt hb
            rw [hb] at hcase
            clear hA hb
            cases hcase
            all_goals
              go_wp2
              go_round
              case rel => exact ⟨k + 1, by omega, by go_num, HA⟩
              case measure => simp [intOf]; omega
        · obtain rfl : k = s.size := by omega
          have HB : Hid (nameB s.data.toList = true) := by show _ = _; rw [nameB_all s hA.all]; simp [h1, h2]
          clear hA
          go_wp2
          go_ret
          exact ⟨ret_bool HB.out.symm, rfl⟩
    · have h2' : ¬ ((s.size : Int) ≤ 20) := by omega
      have h1' : (1 : Int) ≤ (s.size : Int) := by omega
      have HB : Hid (nameB s.data.toList = false) := nameB_len s (by omega)
      go_enter Tryz.func47, Tryz.ntmps47
      go_wp2
      go_ret
      exact ⟨ret_bool HB.out.symm, rfl⟩
  · have h1' : ¬ ((1 : Int) ≤ (s.size : Int)) := by omega
    have HB : Hid (nameB s.data.toList = false) := nameB_len s (by omega)
    go_enter Tryz.func47, Tryz.ntmps47
    go_wp2
    go_ret
    exact ⟨ret_bool HB.out.symm, rfl⟩
end Go.Proofs.YtlaejmehgaeobabGreatDoor
