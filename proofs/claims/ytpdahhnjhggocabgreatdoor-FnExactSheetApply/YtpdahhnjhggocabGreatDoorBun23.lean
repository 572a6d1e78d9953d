import Derived.Test.YtpdahhnjhggocabGreatDoorBun21
import Derived.Shelf.Small.Strs
import Derived.Shelf.Lay
import Derived.Ground.NamesProg
namespace Go.Proofs.YtpdahhnjhggocabGreatDoor
open Go.RowKit
open Go.Shelf in
shelf_lay Lays.n106 Nm 106 at Tryz as Tryz.strCmp
theorem strCompare_any (a b : ByteArray) (w : World) : Calls Tryz.prog 124 #[.string a, .string b] w fun e w' => e = .returned (.int .i64 (cmpL a.toList b.toList)) ∧ w' = w := by
 have h := Any.strings_Compare Tryz.strCmp a b w
 rw [cmpL_bytes] at h
 rw [ByteArray.toList_eq, ByteArray.toList_eq]
 exact h
theorem isNaNInt_any (x : Int) (w : World) : Calls Tryz.prog 190 #[.int .i64 x] w fun e w' => e = .returned (.bool false) ∧ w' = w := by
 go_enter Tryz.func190, Tryz.ntmps190
 go_wp2
 go_ret
 exact ⟨by simp, rfl⟩
theorem isNaNStr_any (x : ByteArray) (w : World) : Calls Tryz.prog 237 #[.string x] w fun e w' => e = .returned (.bool false) ∧ w' = w := by
 go_enter Tryz.func237, Tryz.ntmps237
 go_wp2
 go_ret
 exact ⟨by simp, rfl⟩
def cmpI (x y : Int) : Int := if x < y then -1 else if y < x then 1 else 0
theorem compareInt_any (x y : Int) (w : World) : Calls Tryz.prog 119 #[.int .i64 x, .int .i64 y] w fun e w' => e = .returned (.int .i64 (cmpI x y)) ∧ w' = w := by
 unfold cmpI
 by_cases h1 : x < y
 ·rw [if_pos h1]
  go_enter Tryz.func119, Tryz.ntmps119
  go_wp2_with (go_at_call 190; refine (isNaNInt_any _ _).mono ?_; rintro e w ⟨rfl, rfl⟩)
  go_ret
  exact ⟨rfl, rfl⟩
 ·rw [if_neg h1]
  by_cases h2 : y < x
  ·rw [if_pos h2]
   go_enter Tryz.func119, Tryz.ntmps119
   go_wp2_with (go_at_call 190; refine (isNaNInt_any _ _).mono ?_; rintro e w ⟨rfl, rfl⟩)
   go_ret
   exact ⟨rfl, rfl⟩
  ·rw [if_neg h2]
   go_enter Tryz.func119, Tryz.ntmps119
   go_wp2_with (go_at_call 190; refine (isNaNInt_any _ _).mono ?_; rintro e w ⟨rfl, rfl⟩)
   go_ret
   exact ⟨rfl, rfl⟩
def cmpS (x y : List UInt8) : Int := if x < y then -1 else if y < x then 1 else 0
theorem compareStr_any (x y : ByteArray) (w : World) : Calls Tryz.prog 193 #[.string x, .string y] w fun e w' => e = .returned (.int .i64 (cmpS x.toList y.toList)) ∧ w' = w := by
 unfold cmpS
 have e1 := less_eq x.toList y.toList
 by_cases h1 : x.toList < y.toList
 ·rw [decide_eq_true h1] at e1
  rw [if_pos h1]
  clear h1
  go_enter Tryz.func193, Tryz.ntmps193
  go_wp2_with (go_at_call 237; refine (isNaNStr_any _ _).mono ?_; rintro e w ⟨rfl, rfl⟩)
  go_ret
  exact ⟨rfl, rfl⟩
 ·rw [decide_eq_false h1] at e1
  rw [if_neg h1]
  by_cases h2 : y.toList < x.toList
  ·have e2 : (x.toList == y.toList) = false := by rw [beq_eq_false_iff_ne]; exact fun e => Tot.irr _ (e ▸ h2)
   rw [if_pos h2]
   clear h1 h2
   go_enter Tryz.func193, Tryz.ntmps193
   go_wp2_with (go_at_call 237; refine (isNaNStr_any _ _).mono ?_; rintro e w ⟨rfl, rfl⟩)
   go_ret
   exact ⟨rfl, rfl⟩
  ·have e2 : (x.toList == y.toList) = true := by rw [beq_iff_eq]; exact Tot.tri _ _ h1 h2
   rw [if_neg h2]
   clear h1 h2
   go_enter Tryz.func193, Tryz.ntmps193
   go_wp2_with (go_at_call 237; refine (isNaNStr_any _ _).mono ?_; rintro e w ⟨rfl, rfl⟩)
   go_ret
   exact ⟨rfl, rfl⟩
def orI (a b : Int) : Int := if a = 0 then b else a
theorem orInt_any (a b : Int) (g : Nat) (w : World) (h0 : w.cell? ⟨g, 0, none⟩ = some (.int .i64 a)) (h1 : w.cell? ⟨g, 1, none⟩ = some (.int .i64 b)) : Calls Tryz.prog 118 #[.slice (some ⟨g, 0, none⟩) 2 2] w fun e w' => e = .returned (.int .i64 (orI a b)) ∧ w' = w := by
 unfold orI
 by_cases ha : a = 0
 ·subst ha
  rw [if_pos rfl]
  by_cases hb : b = 0
  ·subst hb
   go_enter Tryz.func118, Tryz.ntmps118
   go_wp2
   go_loop [8] (fun i => ∃ k : Nat, k ≤ 2 ∧ i = .int .i64 (k : Int)) (fun i => 2 - (intOf i).toNat)
   case atStart => exact ⟨0, by omega, rfl⟩
   case round =>
    obtain ⟨k, hk, rfl⟩ := hrel
    rcases (show k = 0 ∨ k = 1 ∨ k = 2 by omega) with rfl | rfl | rfl
    ·go_wp2
     go_round
     case rel => exact ⟨1, by omega, rfl⟩
     case measure => simp [intOf]
    ·go_wp2
     go_round
     case rel => exact ⟨2, by omega, rfl⟩
     case measure => simp [intOf]
    ·go_wp2
     go_ret
     exact ⟨rfl, rfl⟩
  ·go_enter Tryz.func118, Tryz.ntmps118
   go_wp2
   go_loop [8] (fun i => ∃ k : Nat, k ≤ 1 ∧ i = .int .i64 (k : Int)) (fun i => 2 - (intOf i).toNat)
   case atStart => exact ⟨0, by omega, rfl⟩
   case round =>
    obtain ⟨k, hk, rfl⟩ := hrel
    rcases (show k = 0 ∨ k = 1 by omega) with rfl | rfl
    ·go_wp2
     go_round
     case rel => exact ⟨1, by omega, rfl⟩
     case measure => simp [intOf]
    ·go_wp2
     go_ret
     exact ⟨rfl, rfl⟩
 ·rw [if_neg ha]
  go_enter Tryz.func118, Tryz.ntmps118
  go_wp2
  go_loop [8] (fun i => i = .int .i64 0) (fun _ => 0)
  case atStart => rfl
  case round =>
   subst hrel
   go_wp2
   go_ret
   exact ⟨rfl, rfl⟩
def SameTo (xs ys : List (List UInt8)) (k : Nat) : Prop := k ≤ ys.length ∧ xs.take k = ys.take k
theorem cmpL_drop {xs ys : List (List UInt8)} {k : Nat} (h : xs.take k = ys.take k) (hk : k ≤ xs.length) (hy : k ≤ ys.length) : cmpL xs ys = cmpL (xs.drop k) (ys.drop k) := by
 induction k generalizing xs ys with
 | zero => simp
 | succ k ih =>
  match xs, ys, hk, hy with
  | x :: xs, y :: ys, hk, hy =>
   simp only [List.take_succ_cons, List.cons.injEq] at h
   obtain ⟨rfl, h⟩ := h
   rw [List.drop_succ_cons, List.drop_succ_cons, ← ih h (by simpa using hk) (by simpa using hy)]
   rw [cmpL, if_neg (Tot.irr _), if_neg (Tot.irr _)]
theorem SameTo.zero (xs ys : List (List UInt8)) : SameTo xs ys 0 := ⟨Nat.zero_le _, by simp⟩
theorem cmpS_zero {x y : List UInt8} (h : cmpS x y = 0) : x = y := by
 unfold cmpS at h
 by_cases h1 : x < y
 ·rw [if_pos h1] at h; cases h
 ·rw [if_neg h1] at h
  by_cases h2 : y < x
  ·rw [if_pos h2] at h; cases h
  ·exact Tot.tri _ _ h1 h2
theorem SameTo.succ {xs ys : List (List UInt8)} {k : Nat} (h : SameTo xs ys k) (h1 : k < xs.length) (h2 : k < ys.length) (e : cmpS xs[k] ys[k] = 0) : SameTo xs ys (k + 1) := by
 refine ⟨h2, ?_⟩
 rw [List.take_succ_eq_append_getElem h1, List.take_succ_eq_append_getElem h2, h.2, cmpS_zero e]
theorem SameTo.parts {xs ys : List (List UInt8)} {k : Nat} (h : SameTo xs ys k) (h1 : k < xs.length) (h2 : k < ys.length) (e : cmpS xs[k] ys[k] ≠ 0) : cmpS xs[k] ys[k] = cmpL xs ys := by
 rw [cmpL_drop h.2 (by omega) h.1, List.drop_eq_getElem_cons h1, List.drop_eq_getElem_cons h2, cmpL]
 unfold cmpS at e ⊢
 by_cases g1 : xs[k] < ys[k]
 ·rw [if_pos g1, if_pos g1]
 ·rw [if_neg g1] at e ⊢
  by_cases g2 : ys[k] < xs[k]
  ·rw [if_pos g2, if_neg g1, if_pos g2]
  ·rw [if_neg g2] at e; exact absurd rfl e
theorem SameTo.more {xs ys : List (List UInt8)} {k : Nat} (h : SameTo xs ys k) (h1 : k < xs.length) (h2 : ¬ k < ys.length) : (1 : Int) = cmpL xs ys := by
 have : k = ys.length := by have := h.1; omega
 subst this
 rw [cmpL_drop h.2 (by omega) h.1, List.drop_eq_getElem_cons h1, List.drop_length]
 rfl
theorem SameTo.less {xs ys : List (List UInt8)} (h : SameTo xs ys xs.length) (h2 : xs.length < ys.length) : (-1 : Int) = cmpL xs ys := by
 rw [cmpL_drop h.2 (by omega) h.1, List.drop_eq_getElem_cons h2, List.drop_length]
 rfl
theorem SameTo.end {xs ys : List (List UInt8)} (h : SameTo xs ys xs.length) (h2 : ¬ xs.length < ys.length) : (0 : Int) = cmpL xs ys := by
 have : xs.length = ys.length := by have := h.1; omega
 rw [cmpL_drop h.2 (by omega) h.1, List.drop_length, this, List.drop_length]
 rfl
set_option maxHeartbeats 1000000 in
set_option maxRecDepth 100000 in
theorem slicesCompare_any {n m ca cb : Nat} {ao bo : Option Addr} {xs ys : List (List UInt8)} {w : World} (h1 : HasRow w (.slice ao n ca) xs.length 1 (strs xs)) (h2 : HasRow w (.slice bo m cb) ys.length 1 (strs ys)) (hn : n ≤ 1048576) (hm : m ≤ 1048576) : Calls Tryz.prog 121 #[.slice ao n ca, .slice bo m cb] w fun e w' => e = .returned (.int .i64 (cmpL xs ys)) ∧ w' = w := by
 have en := hid_in (show n = xs.length by obtain ⟨_, _, _, e, _⟩ := h1; cases e; rfl)
 have em := hid_in (show m = ys.length by obtain ⟨_, _, _, e, _⟩ := h2; cases e; rfl)
 go_enter Tryz.func121, Tryz.ntmps121
 go_wp2
 go_loop [11] (fun i => ∃ k : Nat, k ≤ n ∧ i = .int .i64 (k : Int) ∧ SameTo xs ys k) (fun i => n - (intOf i).toNat)
 case atStart => exact ⟨0, by omega, rfl, SameTo.zero _ _⟩
 case round =>
  obtain ⟨k, hk, rfl, hA⟩ := hrel
  by_cases hlt : k < n
  ·have lk : k < xs.length := by have := en.out; omega
   obtain ⟨b, off, rfl, c1⟩ := h1.word k lk
   by_cases hlt2 : k < m
   ·have lk2 : k < ys.length := by have := em.out; omega
    obtain ⟨b2, off2, rfl, c2⟩ := h2.word k lk2
    have H := fun W => compareStr_any ⟨xs[k].toArray⟩ ⟨ys[k].toArray⟩ W
    have e1 : (ByteArray.mk xs[k].toArray).toList = xs[k] := by rw [ByteArray.toList_eq]
    have e2 : (ByteArray.mk ys[k].toArray).toList = ys[k] := by rw [ByteArray.toList_eq]
    rw [e1, e2] at H
    by_cases hz : cmpS xs[k] ys[k] = 0
    ·have HA := hA.succ (by have := en.out; omega) (by have := em.out; omega) hz
     rw [hz] at H
     generalize (⟨xs[k].toArray⟩ : ByteArray) = x at *
     generalize (⟨ys[k].toArray⟩ : ByteArray) = y at *
     clear hA h1 h2 hz e1 e2
     go_wp2_with (go_at_call 193; refine (H _).mono ?_; rintro e w ⟨rfl, rfl⟩)
     go_round
     case rel => exact ⟨k + 1, by omega, by go_num, HA⟩
     case measure => simp [intOf]; omega
    ·have HA := hid_in (hA.parts (by have := en.out; omega) (by have := em.out; omega) hz)
     have hz' : (cmpS xs[k] ys[k] != 0) = true := by rw [bne_iff_ne]; exact hz
     generalize cmpS xs[k] ys[k] = r at *
     generalize (⟨xs[k].toArray⟩ : ByteArray) = x at *
     generalize (⟨ys[k].toArray⟩ : ByteArray) = y at *
     clear hA h1 h2 hz e1 e2
     go_wp2_with (go_at_call 193; refine (H _).mono ?_; rintro e w ⟨rfl, rfl⟩)
     go_ret
     exact ⟨ret_int HA.out, rfl⟩
   ·have HA := hid_in (hA.more (by have := en.out; omega) (by have := em.out; omega))
    clear hA h1 h2
    go_wp2
    go_ret
    exact ⟨ret_int HA.out, rfl⟩
  ·obtain rfl : k = n := by omega
   by_cases hl : k < m
   ·have HA := hid_in (SameTo.less (en.out ▸ hA) (by have := en.out; have := em.out; omega))
    clear hA h1 h2
    go_wp2
    go_ret
    exact ⟨ret_int HA.out, rfl⟩
   ·have HA := hid_in (SameTo.end (en.out ▸ hA) (by have := en.out; have := em.out; omega))
    clear hA h1 h2
    go_wp2
    go_ret
    exact ⟨ret_int HA.out, rfl⟩
end Go.Proofs.YtpdahhnjhggocabGreatDoor
