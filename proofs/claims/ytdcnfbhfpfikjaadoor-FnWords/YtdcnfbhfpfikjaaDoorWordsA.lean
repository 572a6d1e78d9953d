import Derived.Test.YtdcnfbhfpfikjaaDoorWordSmall
import Derived.Test.YtdcnfbhfpfikjaaDoorWordsPlain
import Derived.Test.YtdcnfbhfpfikjaaDoorWShelf
import Derived.LoopTactic
namespace Go.Proofs.YtdcnfbhfpfikjaaDoor
open Go.RowKit
/-- What the specification's l1Hex gives. -/
def hexI (c : UInt8) : Int := if hexV c < 16 then (hexV c : Int) else -1
theorem hexV_dig {c : UInt8} (h1 : 48 ≤ c.toNat) (h2 : c.toNat ≤ 57) : hexV c = c.toNat - 48 := by simp [hexV, h1, h2]
theorem hexV_let {c : UInt8} (h1 : 97 ≤ c.toNat) (h2 : c.toNat ≤ 102) : hexV c = c.toNat - 87 := by
  unfold hexV; rw [if_neg (by omega), if_pos (by omega)]
theorem hexV_no {c : UInt8} (h1 : ¬ (48 ≤ c.toNat ∧ c.toNat ≤ 57)) (h2 : ¬ (97 ≤ c.toNat ∧ c.toNat ≤ 102)) : hexV c = 16 := by
  unfold hexV; rw [if_neg h1, if_neg h2]
theorem ret_int {k : IntKind} {a b : Int} (h : a = b) : Ending.returned (.int k a) = .returned (.int k b) := by rw [h]
theorem hexI_dig {c : UInt8} (h1 : 48 ≤ c.toNat) (h2 : c.toNat ≤ 57) : hexI c = (c.toNat : Int) - 48 := by
  unfold hexI; rw [hexV_dig h1 h2, if_pos (by omega)]; omega
theorem hexI_let {c : UInt8} (h1 : 97 ≤ c.toNat) (h2 : c.toNat ≤ 102) : hexI c = (c.toNat : Int) - 97 + 10 := by
  unfold hexI; rw [hexV_let h1 h2, if_pos (by omega)]; omega
theorem hexI_no {c : UInt8} (h1 : ¬ (48 ≤ c.toNat ∧ c.toNat ≤ 57)) (h2 : ¬ (97 ≤ c.toNat ∧ c.toNat ≤ 102)) : hexI c = -1 := by
  unfold hexI; rw [hexV_no h1 h2, if_neg (by omega)]
set_option maxHeartbeats 400000 in
theorem l1Hex_any (c : UInt8) (w : World) : Calls Tryd.prog 53 #[.int .u8 (c.toNat : Int)] w fun e w' => e = .returned (.int .i64 (hexI c)) ∧ w' = w := by
  have hc : c.toNat < 256 := c.toNat_lt
  go_enter Tryd.func53, Tryd.ntmps53
  go_wp2
  all_goals
    go_ret
    refine ⟨ret_int ?_, rfl⟩
    first | exact (hexI_no (by omega) (by omega)).symm | (rw [hexI_dig (by omega) (by omega)]; done) | (rw [hexI_let (by omega) (by omega)]; done) | (rw [hexI_dig (by omega) (by omega)]; go_num) | (rw [hexI_let (by omega) (by omega)]; go_num)
theorem end_last (c : UInt8) : (((c.toNat : Int) == 32) || ((c.toNat : Int) == 35)) = decide (c.toNat = 32 ∨ c.toNat = 35) := by
  rw [Bool.eq_iff_iff]; simp; omega
set_option maxHeartbeats 400000 in
theorem endsWord_any (t : ByteArray) (w : World) (hs : t.size ≤ 1048576) : Calls Tryd.prog 29 #[.string t] w fun e w' => e = .returned (.bool (endOk t.data.toList)) ∧ w' = w := by
  by_cases h0 : t.size = 0
  · have ht : t = ⟨#[]⟩ := by apply ByteArray.ext; exact Array.eq_empty_of_size_eq_zero h0
    subst ht
    go_enter Tryd.func29, Tryd.ntmps29
    go_wp2
    go_ret
    exact ⟨rfl, rfl⟩
  · have hp : (0 : Int) < (t.size : Int) := by omega
    have hp' : 0 < t.size := by omega
    have hne : t.toList.isEmpty = false := by rw [ByteArray.toList_eq]; cases h : t.data.toList with | nil => exact absurd (by rw [Lib.size_eq, h]; rfl) h0 | cons _ _ => rfl
    have HE : Hid (endOk t.data.toList = decide (t[0].toNat = 32 ∨ t[0].toNat = 35)) := by
      show _ = _
      have := drop_cons t 0 hp'
      rw [List.drop_zero] at this; rw [this]; rfl
    go_enter Tryd.func29, Tryd.ntmps29
    go_wp2
    all_goals
      go_ret
      refine ⟨ret_bool ?_, rfl⟩
      rw [HE.out]
      first | exact (decide_eq_true (by omega)).symm | exact end_last t[0]
/-- What stands behind a quotation mark, its first byte: how it is read, and with how many bytes it is written. -/
def qB : List UInt8 → Option (UInt8 × Nat)
  | [] => none
  | c :: r => if plainB c = true then some (c, 1) else if c.toNat = 92 then (match r with | a :: b :: _ => if hexV a < 16 ∧ hexV b < 16 then some (UInt8.ofNat (16 * hexV a + hexV b), 3) else none | _ => none) else none
theorem list3 (t : ByteArray) (h : 2 < t.size) : t.data.toList = t[0] :: t[1] :: t[2] :: t.data.toList.drop 3 := by
  have h0 := drop_cons t 0 (by omega); have h1 := drop_cons t 1 (by omega); have h2 := drop_cons t 2 (by omega)
  rw [List.drop_zero] at h0; exact h0.trans (congrArg _ (h1.trans (congrArg _ h2)))
theorem list1 (t : ByteArray) (h : 0 < t.size) : t.data.toList = t[0] :: t.data.toList.drop 1 := by
  have h0 := drop_cons t 0 h
  rw [List.drop_zero] at h0; exact h0
theorem qB_plain (t : ByteArray) (h : 0 < t.size) (hp : plainB t[0] = true) : qB t.data.toList = some (t[0], 1) := by
  rw [list1 t h]; simp [qB, hp]
theorem qB_other (t : ByteArray) (h : 0 < t.size) (hp : plainB t[0] = false) (h92 : t[0].toNat ≠ 92) : qB t.data.toList = none := by
  rw [list1 t h]; simp [qB, hp, h92]
theorem qB_short (t : ByteArray) (h : 0 < t.size) (hp : plainB t[0] = false) (h3 : t.size < 3) : qB t.data.toList = none := by
  have hl : (t.data.toList.drop 1).length ≤ 1 := by simp; omega
  rw [list1 t h]
  match t.data.toList.drop 1, hl with
  | [], _ => simp [qB, hp]
  | [_], _ => simp [qB, hp]
theorem qB_hex (t : ByteArray) (h : 2 < t.size) (h92 : t[0].toNat = 92) : qB t.data.toList = if hexV t[1] < 16 ∧ hexV t[2] < 16 then some (UInt8.ofNat (16 * hexV t[1] + hexV t[2]), 3) else none := by
  have hp : plainB t[0] = false := plainB_no (by omega)
  rw [list3 t h]; simp [qB, hp, h92]
theorem indexHex (c : UInt8) : Lib.indexByte [48, 49, 50, 51, 52, 53, 54, 55, 56, 57, 97, 98, 99, 100, 101, 102] c = hexI c := by
  have h : ∀ n, n < 256 → Lib.indexByte [48, 49, 50, 51, 52, 53, 54, 55, 56, 57, 97, 98, 99, 100, 101, 102] n.toUInt8 = hexI n.toUInt8 := by decide +kernel
  have := h c.toNat c.toNat_lt
  simpa using this
theorem indexHex_any (c : UInt8) (w : World) : Calls Tryd.prog 76 #[.string ⟨#[48, 49, 50, 51, 52, 53, 54, 55, 56, 57, 97, 98, 99, 100, 101, 102]⟩, .int .u8 (c.toNat : Int)] w fun e w' => e = .returned (.int .i64 (hexI c)) ∧ w' = w := by
  have H := strings_IndexByte ⟨#[48, 49, 50, 51, 52, 53, 54, 55, 56, 57, 97, 98, 99, 100, 101, 102]⟩ (c.toNat : Int) w
  have e : ((c.toNat : Int)).toNat.toUInt8 = c := by simp
  rw [e] at H
  have e2 := indexHex c
  rw [show (⟨#[48, 49, 50, 51, 52, 53, 54, 55, 56, 57, 97, 98, 99, 100, 101, 102]⟩ : ByteArray).data.toList = [48, 49, 50, 51, 52, 53, 54, 55, 56, 57, 97, 98, 99, 100, 101, 102] from rfl, e2] at H
  exact H
/-- What quotedByte gives. -/
def qV (o : Option (UInt8 × Nat)) : Value := match o with | none => .tuple #[.int .u8 0, .int .i64 0] | some p => .tuple #[.int .u8 (p.1.toNat : Int), .int .i64 (p.2 : Int)]
theorem byte_of (a b : Nat) (ha : a < 16) (hb : b < 16) : ((UInt8.ofNat (16 * a + b)).toNat : Int) = (a : Int) * 16 + (b : Int) := by
  have : (UInt8.ofNat (16 * a + b)).toNat = 16 * a + b := by
    rw [UInt8.toNat_ofNat']; omega
  rw [this]; omega
theorem ret_val {a b : Value} (h : a = b) : Ending.returned a = .returned b := by rw [h]
theorem qV_eq {a b : Nat} (h : ((UInt8.ofNat (16 * a + b)).toNat : Int) = (a : Int) * 16 + (b : Int)) : Value.tuple #[.int .u8 ((a : Int) * 16 + (b : Int)), .int .i64 3] = qV (some (UInt8.ofNat (16 * a + b), 3)) := by
  unfold qV; simp only [h]; rfl
theorem hexI_lt {c : UInt8} (h : hexV c < 16) : hexI c = (hexV c : Int) := by simp [hexI, h]
theorem hexI_ge {c : UInt8} (h : ¬ hexV c < 16) : hexI c = -1 := by simp [hexI, h]
set_option maxHeartbeats 800000 in
theorem quotedByte_any (t : ByteArray) (w : World) (h0 : 0 < t.size) (hs : t.size ≤ 1048576) : Calls Tryd.prog 123 #[.string t] w fun e w' => e = .returned (qV (qB t.data.toList)) ∧ w' = w := by
  have hp : (0 : Int) < (t.size : Int) := by omega
  have H := isPlain_any t[0] w
  cases hpl : plainB t[0] <;> rw [hpl] at H
  · by_cases h92 : t[0].toNat = 92
    · have h92' : ((t[0].toNat : Int) != 92) = false := by rw [bne_eq_false_iff_eq]; omega
      by_cases h3 : t.size < 3
      · rw [qB_short t h0 hpl h3]
        have h3' : (t.size : Int) < 3 := by omega
        clear h92 hpl
        go_enter Tryd.func123, Tryd.ntmps123
        go_wp2_with (go_at_call 57; refine H.mono ?_; rintro e w' ⟨rfl, rfl⟩)
        go_ret2
        exact ⟨rfl, rfl⟩
      · have h3' : ¬ (t.size : Int) < 3 := by omega
        have h31 : (1 : Int) < (t.size : Int) := by omega
        have h32 : (2 : Int) < (t.size : Int) := by omega
        have H1 := indexHex_any (t[1]'(by omega)) w
        have H2 := indexHex_any (t[2]'(by omega)) w
        have HQ := qB_hex t (by omega) h92
        clear h92 hpl
        by_cases ha : hexV (t[1]'(by omega)) < 16
        · rw [hexI_lt ha] at H1
          by_cases hb : hexV (t[2]'(by omega)) < 16
          · rw [hexI_lt hb] at H2
            rw [if_pos ⟨ha, hb⟩] at HQ
            rw [HQ]
            have HB := byte_of _ _ ha hb
            have HB' : Hid _ := HB
            clear HQ HB
            generalize hexV (t[1]'(by omega)) = a at *
            generalize hexV (t[2]'(by omega)) = b at *
            go_enter Tryd.func123, Tryd.ntmps123
            go_wp2_with (go_at_call 57; refine H.mono ?_; rintro e w' ⟨rfl, rfl⟩)
            refine H1.mono ?_
            rintro e w' ⟨rfl, rfl⟩
            go_wp2_with fail
            refine H2.mono ?_
            rintro e w' ⟨rfl, rfl⟩
            go_wp2
            go_ret2
            exact ⟨ret_val (qV_eq HB'.out), rfl⟩
          · rw [hexI_ge hb] at H2
            rw [if_neg (fun h => hb h.2)] at HQ
            rw [HQ]
            clear HQ hb
            generalize hexV (t[1]'(by omega)) = a at *
            go_enter Tryd.func123, Tryd.ntmps123
            go_wp2_with (go_at_call 57; refine H.mono ?_; rintro e w' ⟨rfl, rfl⟩)
            refine H1.mono ?_
            rintro e w' ⟨rfl, rfl⟩
            go_wp2_with fail
            refine H2.mono ?_
            rintro e w' ⟨rfl, rfl⟩
            go_wp2
            go_ret2
            exact ⟨rfl, rfl⟩
        · rw [hexI_ge ha] at H1
          rw [if_neg (fun h => ha h.1)] at HQ
          rw [HQ]
          clear HQ ha
          generalize hexI (t[2]'(by omega)) = b at *
          go_enter Tryd.func123, Tryd.ntmps123
          go_wp2_with (go_at_call 57; refine H.mono ?_; rintro e w' ⟨rfl, rfl⟩)
          refine H1.mono ?_
          rintro e w' ⟨rfl, rfl⟩
          go_wp2_with fail
          refine H2.mono ?_
          rintro e w' ⟨rfl, rfl⟩
          go_wp2
          go_ret2
          exact ⟨rfl, rfl⟩
    · rw [qB_other t h0 hpl h92]
      have h92' : ((t[0].toNat : Int) != 92) = true := by rw [bne_iff_ne]; omega
      clear h92 hpl
      go_enter Tryd.func123, Tryd.ntmps123
      go_wp2_with (go_at_call 57; refine H.mono ?_; rintro e w' ⟨rfl, rfl⟩)
      go_ret2
      exact ⟨rfl, rfl⟩
  · rw [qB_plain t h0 hpl]
    clear hpl
    go_enter Tryd.func123, Tryd.ntmps123
    go_wp2_with (go_at_call 57; refine H.mono ?_; rintro e w' ⟨rfl, rfl⟩)
    go_ret2
    exact ⟨rfl, rfl⟩
end Go.Proofs.YtdcnfbhfpfikjaaDoor
