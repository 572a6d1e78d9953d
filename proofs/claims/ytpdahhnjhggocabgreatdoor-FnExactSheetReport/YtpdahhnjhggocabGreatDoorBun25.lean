import Derived.Test.YtpdahhnjhggocabGreatDoorBun23
import Derived.Test.YtpdahhnjhggocabGreatDoorBun20
import Derived.Shelf.Strings.Prefix
import Derived.Shelf.Strings.Count
namespace Go.Proofs.YtpdahhnjhggocabGreatDoor
open Go.RowKit
theorem suffix_ten (l : List UInt8) : [10].isSuffixOf l = decide (l.getLast? = some 10) := by
 rw [Bool.eq_iff_iff, List.isSuffixOf_iff_suffix, decide_eq_true_iff]
 constructor
 ·rintro ⟨t, rfl⟩; simp
 ·intro h
  obtain ⟨t, rfl⟩ := List.getLast?_eq_some_iff.1 h
  exact ⟨t, rfl⟩
def openL (l : List UInt8) : Nat := if l ≠ [] ∧ l.getLast? ≠ some 10 then 1 else 0
theorem linesFrom_len : ∀ (l acc : List UInt8), (10 : UInt8) ∉ acc → (linesFrom acc l).length = l.count 10 + openL (acc ++ l)
 | [], acc, ha => by
  unfold linesFrom openL
  rw [List.append_nil]
  by_cases h : acc = []
  ·simp [h]
  ·have hl : acc.getLast? ≠ some 10 := fun e => ha (List.mem_of_getLast? e)
   rw [if_neg h, if_pos ⟨h, hl⟩]; simp
 | c :: l, acc, ha => by
  unfold linesFrom
  by_cases hc : c = 10
  ·subst hc
   rw [if_pos rfl, List.length_cons, linesFrom_len l [] (by simp), List.count_cons_self, List.nil_append]
   have : openL l = openL (acc ++ 10 :: l) := by
    unfold openL
    cases l with
    | nil => simp
    | cons x l => simp [List.getLast?_append, List.getLast?_cons_cons]
   omega
  ·rw [if_neg hc, linesFrom_len l (acc ++ [c]) (by simp [ha]; exact fun e => hc e.symm), List.count_cons_of_ne hc, List.append_assoc]; rfl
theorem textLines_len (l : List UInt8) : (textLines l).length = l.count 10 + openL l := by
 unfold textLines; rw [linesFrom_len l [] (by simp)]; rfl
open Go.Shelf in
shelf_lay Lays.n138 Nm 138 at Tryz as Tryz.strCount
open Go.Shelf in
shelf_lay Lays.n100 Nm 100 at Tryz as Tryz.strSuffix
theorem count10_any (s : ByteArray) (w : World) : Calls Tryz.prog 134 #[.string s, .string ⟨#[10]⟩] w fun e w' => e = .returned (.int .i64 (s.data.toList.count 10 : Nat)) ∧ w' = w := Any.strings_Count_one Tryz.strCount s 10 w
theorem suffix10_any (s : ByteArray) (w : World) (hs : s.size ≤ 9223372036854775807) : Calls Tryz.prog 135 #[.string s, .string ⟨#[10]⟩] w fun e w' => e = .returned (.bool (decide (s.data.toList.getLast? = some 10))) ∧ w' = w := by
 have h := Any.strings_HasSuffix Tryz.strSuffix s ⟨#[10]⟩ w hs
 rw [← suffix_ten]
 exact h
theorem tooLong_eq (s : ByteArray) (o : Nat) (ho : openL s.data.toList = o) : (decide ((20000 : Int) < (s.size : Int)) || decide ((400 : Int) < ((s.data.toList.count 10 + o : Nat) : Int))) = decide (tooLongL s.data.toList) := by
 have e : s.data.toList.length = s.size := by simp
 rw [Bool.eq_iff_iff, Bool.or_eq_true, decide_eq_true_iff, decide_eq_true_iff, decide_eq_true_iff]
 unfold tooLongL
 rw [textLines_len, ho, e]
 omega
set_option maxHeartbeats 1000000 in
set_option maxRecDepth 100000 in
theorem tooLong_any (s : ByteArray) (w : World) (hs : s.size ≤ 4611686018427387904) : Calls Tryz.prog 66 #[.string s] w fun e w' => e = .returned (.bool (decide (tooLongL s.data.toList))) ∧ w' = w := by
 have hn : s.data.toList.count 10 ≤ s.size := by have := List.count_le_length (a := (10 : UInt8)) (l := s.data.toList); simpa using this
 have HC := fun W => count10_any s W
 have HS := fun W => suffix10_any s W (by omega)
 have hE := hid_in (tooLong_eq s)
 generalize decide (tooLongL s.data.toList) = TL at *
 generalize s.data.toList.count 10 = n at *
 have hn' : (n : Int) ≤ 4611686018427387904 := by omega
 by_cases h0 : s.toList = []
 ·have h1 : (s.toList == []) = true := by rw [h0]; rfl
  have hd : s.data.toList = [] := by rw [← ByteArray.toList_eq]; exact h0
  have hsz : s.size = 0 := by
   have : s.data.toList.length = s.size := by simp
   rw [hd] at this; simpa using this.symm
  have hE' := hE.out 0 (by rw [hd]; rfl)
  rw [Nat.add_zero] at hE'
  have HE := hid_in hE'
  clear hE hE' h0 hd HS
  go_enter Tryz.func66, Tryz.ntmps66
  go_wp2_with (go_at_call 134; refine (HC _).mono ?_; rintro e w ⟨rfl, rfl⟩)
  go_ret
  have := HE.out
  rw [hsz] at this
  refine ⟨?_, rfl⟩
  rw [← this]
  simp
 ·have h1 : (s.toList == []) = false := by simpa using h0
  have hd : s.data.toList ≠ [] := by rw [← ByteArray.toList_eq]; exact h0
  clear h0
  have go : ∀ (L : Bool) (o : Nat), decide (s.data.toList.getLast? = some 10) = L → (if L then 0 else 1) = o → (decide ((20000 : Int) < (s.size : Int)) || decide ((400 : Int) < ((n + o : Nat) : Int))) = TL := by
   rintro L o hL rfl
   refine hE.out _ ?_
   unfold openL
   cases L with
   | true => rw [decide_eq_true_iff] at hL; rw [if_neg (fun h => h.2 hL)]; rfl
   | false => rw [decide_eq_false_iff_not] at hL; rw [if_pos ⟨hd, hL⟩]; rfl
  generalize decide (s.data.toList.getLast? = some 10) = L at *
  have GO := hid_in (fun o h => go L o rfl h)
  clear go hE hd
  cases L with
  | true =>
   have HE := hid_in (GO.out 0 rfl)
   clear GO
   by_cases hk : (20000 : Int) < (s.size : Int)
   ·go_enter Tryz.func66, Tryz.ntmps66
    go_wp2_with (first | (go_at_call 134; refine (HC _).mono ?_; rintro e w ⟨rfl, rfl⟩) | (go_at_call 135; refine (HS _).mono ?_; rintro e w ⟨rfl, rfl⟩))
    go_ret
    refine ⟨?_, rfl⟩
    rw [← HE.out]; simp [hk]
   ·have hk' : decide ((20000 : Int) < (s.size : Int)) = false := decide_eq_false hk
    go_enter Tryz.func66, Tryz.ntmps66
    go_wp2_with (first | (go_at_call 134; refine (HC _).mono ?_; rintro e w ⟨rfl, rfl⟩) | (go_at_call 135; refine (HS _).mono ?_; rintro e w ⟨rfl, rfl⟩))
    go_ret
    refine ⟨?_, rfl⟩
    rw [← HE.out, hk']; simp
  | false =>
   have HE := hid_in (GO.out 1 rfl)
   clear GO
   have hw : IntKind.i64.wrap ((n : Int) + 1) = (n : Int) + 1 := by rw [IntKind.wrap_i64]; omega
   by_cases hk : (20000 : Int) < (s.size : Int)
   ·go_enter Tryz.func66, Tryz.ntmps66
    go_wp2_with (first | (go_at_call 134; refine (HC _).mono ?_; rintro e w ⟨rfl, rfl⟩) | (go_at_call 135; refine (HS _).mono ?_; rintro e w ⟨rfl, rfl⟩))
    go_ret
    refine ⟨?_, rfl⟩
    rw [← HE.out]; simp [hk]
   ·have hk' : decide ((20000 : Int) < (s.size : Int)) = false := decide_eq_false hk
    go_enter Tryz.func66, Tryz.ntmps66
    go_wp2_with (first | (go_at_call 134; refine (HC _).mono ?_; rintro e w ⟨rfl, rfl⟩) | (go_at_call 135; refine (HS _).mono ?_; rintro e w ⟨rfl, rfl⟩))
    go_ret
    refine ⟨?_, rfl⟩
    rw [← HE.out, hk']; simp
end Go.Proofs.YtpdahhnjhggocabGreatDoor
