import Derived.Test.YtpdahhnjhggocabGreatDoorBun18
import Derived.Test.YtpdahhnjhggocabGreatDoorBun11
namespace Go.Proofs.YtpdahhnjhggocabGreatDoor
open Go.RowKit
def fitsWords (ns : List Int) (ws : List (List UInt8)) : Bool := decide (ns.length = ws.length) && (List.zipWith fitsB ns ws).all id
def FitTo (ns : List Int) (ws : List (List UInt8)) (k : Nat) : Prop := ((List.zipWith fitsB ns ws).take k).all id = true
theorem fitsWords_len {ns : List Int} {ws : List (List UInt8)} (h : ¬ ns.length = ws.length) : fitsWords ns ws = false := by unfold fitsWords; rw [decide_eq_false h]; rfl
theorem fitsWords_no {ns : List Int} {ws : List (List UInt8)} (k : Nat) (h1 : k < ns.length) (h2 : k < ws.length) (h : fitsB ns[k] ws[k] = false) : fitsWords ns ws = false := by
 unfold fitsWords
 rw [Bool.and_eq_false_iff]
 right
 rw [List.all_eq_false]
 refine ⟨false, ?_, by simp⟩
 rw [List.mem_iff_getElem]
 exact ⟨k, by simp; omega, by simp [h]⟩
theorem FitTo.zero (ns : List Int) (ws : List (List UInt8)) : FitTo ns ws 0 := by simp [FitTo]
theorem FitTo.succ {ns : List Int} {ws : List (List UInt8)} {k : Nat} (H : FitTo ns ws k) (h1 : k < ns.length) (h2 : k < ws.length) (h : fitsB ns[k] ws[k] = true) : FitTo ns ws (k + 1) := by
 unfold FitTo at H ⊢
 rw [List.take_succ_eq_append_getElem (by simp; omega), List.all_append, H]
 simp [h]
theorem FitTo.all {ns : List Int} {ws : List (List UInt8)} (H : FitTo ns ws ns.length) (hl : ns.length = ws.length) : fitsWords ns ws = true := by
 unfold fitsWords FitTo at *
 rw [List.take_of_length_le (by simp; omega)] at H
 rw [H, decide_eq_true hl]; rfl
theorem ints_cell (ns : List Int) (j : Nat) (h : j < ns.length) : (intsV ns)[j]? = some (.int .i64 ns[j]) := by simp [intsV, h]
set_option maxHeartbeats 1000000 in
set_option maxRecDepth 100000 in
theorem ruleTakes_any {B n m ca cb nw cw : Nat} {ao bo wo : Option Addr} {key : ByteArray} {many : Bool} {ns : List Int} {ws : List (List UInt8)} {w : World} (h1 : w.ownsRow B 3 1 (.slice ao n ca) n (intsV ns)) (h2 : HasRow w (.slice wo nw cw) nw 1 (strs ws)) (hn : n ≤ 1000) (hw : nw ≤ 1048576) (ht : ∀ t ∈ ns, 1 ≤ t ∧ t ≤ 6) (hs : ∀ x ∈ ws, x.length ≤ 1048576) (hst : StdAt w) :
  Calls Tryz.prog 243 #[.agg #[.string key, .slice ao n ca, .bool many, .slice bo m cb], .slice wo nw cw] w fun e w' => e = .returned (.bool (fitsWords ns ws)) ∧ Below w.heap.size w w' := by
 have l1 : ns.length = n := by have := h1.1; rw [intsV_length] at this; omega
 have l2 : ws.length = nw := by have := h2.1; rw [strs_length] at this; omega
 by_cases hlen : nw = n
 ·subst hlen
  have hn0 : ((nw : Int) != (nw : Int)) = false := by simp
  obtain ⟨_, _, ea, f1⟩ := own_form h1
  cases ea
  have B0 := (Below.refl w.heap.size w).alloc (Nat.le_refl _) (.cells #[.string key, .slice ao nw ca, .bool many, .slice bo m cb] 105)
  go_enter Tryz.func243, Tryz.ntmps243
  go_wp2
  go_loopw [16] (fun i wr => ∃ j : Nat, j ≤ nw ∧ i = .int .i64 (j : Int) ∧ Below w.heap.size w wr ∧ FitTo ns ws j) (fun i _ => nw - (intOf i).toNat)
  case atStart => exact ⟨0, by omega, rfl, B0, FitTo.zero _ _⟩
  case round =>
   obtain ⟨j, hj, rfl, hbw, hA⟩ := hrel
   by_cases hlt : j < nw
   ·rcases f1 with f1 | ⟨g, rfl⟩
    ·omega
    obtain ⟨h, off, rfl, c2⟩ := (h2.below hbw).word j (by omega)
    have c1 := (own_below h1 hbw).cellAt j (by omega)
    rw [ints_cell ns j (by omega)] at c1
    have H := fun W hW => takes_any ns[j] (ht _ (List.getElem_mem _)).1 (ht _ (List.getElem_mem _)).2 ⟨ws[j].toArray⟩ W (by simpa [ByteArray.size] using hs ws[j] (List.getElem_mem _)) hW
    have hst' := hst.below hbw
    cases hf : fitsB ns[j] ws[j]
    ·have HB := hid_in (fitsWords_no j (by omega) (by omega) hf).symm
     have H' : ∀ W, StdAt W → Calls Tryz.prog 260 #[.int .i64 ns[j], .string ⟨ws[j].toArray⟩] W fun e w' => e = .returned (.bool false) ∧ Below W.heap.size W w' := by rw [← hf]; exact H
     generalize ns[j] = x at *
     generalize (⟨ws[j].toArray⟩ : ByteArray) = y at *
     clear H hA hf hs ht h1 h2 hst B0
     go_wp2_with (go_at_call 260; refine (H' _ hst').mono ?_; rintro e w1 ⟨rfl, b1⟩)
     go_ret
     exact ⟨ret_bool HB.out, hbw.trans (b1.mono hbw.size)⟩
    ·have HA := hA.succ (by omega) (by omega) hf
     have H' : ∀ W, StdAt W → Calls Tryz.prog 260 #[.int .i64 ns[j], .string ⟨ws[j].toArray⟩] W fun e w' => e = .returned (.bool true) ∧ Below W.heap.size W w' := by rw [← hf]; exact H
     generalize ns[j] = x at *
     generalize (⟨ws[j].toArray⟩ : ByteArray) = y at *
     clear H hA hf hs ht h1 h2 hst B0
     go_wp2_with (go_at_call 260; refine (H' _ hst').mono ?_; rintro e w1 ⟨rfl, b1⟩)
     go_roundw
     case rel => exact ⟨j + 1, by omega, by go_num, hbw.trans (b1.mono hbw.size), HA⟩
     case measure => simp [intOf]; omega
   ·obtain rfl : j = nw := by omega
    have HB := hid_in (FitTo.all (by rw [l1]; exact hA) (by omega)).symm
    clear hA
    go_wp2
    go_ret
    exact ⟨ret_bool HB.out, hbw⟩
 ·have hn0 : ((nw : Int) != (n : Int)) = true := by rw [bne_iff_ne]; omega
  have HB := hid_in (fitsWords_len (ns := ns) (ws := ws) (by omega)).symm
  have B0 := (Below.refl w.heap.size w).alloc (Nat.le_refl _) (.cells #[.string key, .slice ao n ca, .bool many, .slice bo m cb] 105)
  clear h1 h2 hs ht
  go_enter Tryz.func243, Tryz.ntmps243
  go_wp2
  go_ret
  exact ⟨ret_bool HB.out, B0⟩
end Go.Proofs.YtpdahhnjhggocabGreatDoor
namespace Go.Proofs.YtpdahhnjhggocabGreatDoor
open Go.RowKit
def pickR (R : List Plain) (key : ByteArray) : Option Plain := R.find? (fun p => p.1.toList == key.toList)
def fitsIn (R : List Plain) (key : ByteArray) (ws : List (List UInt8)) : Bool := match pickR R key with
 | some p => fitsWords p.2.1 ws
 | none => false
theorem fitsIn_some {R : List Plain} {key : ByteArray} {p : Plain} (ws : List (List UInt8)) (h : pickR R key = some p) : fitsIn R key ws = fitsWords p.2.1 ws := by unfold fitsIn; rw [h]
theorem fitsIn_none {R : List Plain} {key : ByteArray} (ws : List (List UInt8)) (h : pickR R key = none) : fitsIn R key ws = false := by unfold fitsIn; rw [h]
def NoneTo (L : List RAt) (key : ByteArray) (k : Nat) : Prop := ∀ r ∈ L.take k, (r.key.toList == key.toList) = false
theorem NoneTo.zero (L : List RAt) (key : ByteArray) : NoneTo L key 0 := by simp [NoneTo]
theorem NoneTo.succ {D T : List RAt} {r : RAt} {key : ByteArray} (h : NoneTo (D ++ r :: T) key D.length) (hr : (r.key.toList == key.toList) = false) : NoneTo (D ++ r :: T) key (D.length + 1) := by
 unfold NoneTo at *
 rw [List.take_append_of_le_length (Nat.le_refl _), List.take_length] at h
 rw [List.take_append, List.take_of_length_le (by omega), show D.length + 1 - D.length = 1 from by omega]
 intro s hs
 simp only [List.take_succ_cons, List.take_zero, List.mem_append, List.mem_singleton] at hs
 rcases hs with hs | rfl
 ·exact h s hs
 ·exact hr
theorem NoneTo.none {L : List RAt} {key : ByteArray} (h : NoneTo L key L.length) : pickR (L.map RAt.plain) key = none := by
 unfold NoneTo at h
 rw [List.take_length] at h
 unfold pickR
 rw [List.find?_eq_none]
 intro p hp
 obtain ⟨r, hr, rfl⟩ := List.mem_map.1 hp
 rw [show (RAt.plain r).1 = r.key from rfl, h r hr]; decide
theorem NoneTo.hit {D T : List RAt} {r : RAt} {key : ByteArray} (h : NoneTo (D ++ r :: T) key D.length) (hr : (r.key.toList == key.toList) = true) : pickR ((D ++ r :: T).map RAt.plain) key = some r.plain := by
 unfold NoneTo at h
 rw [List.take_append_of_le_length (Nat.le_refl _), List.take_length] at h
 unfold pickR
 rw [List.map_append, List.find?_append, List.find?_eq_none.2, Option.none_or, List.map_cons, List.find?_cons_of_pos]
 ·exact hr
 ·intro p hp
  obtain ⟨s, hs, rfl⟩ := List.mem_map.1 hp
  rw [show (RAt.plain s).1 = s.key from rfl, h s hs]; decide
def SmallR (R : List Plain) : Prop := R.length ≤ 12 ∧ ∀ p ∈ R, p.2.1.length ≤ 3 ∧ ∀ t ∈ p.2.1, 1 ≤ t ∧ t ≤ 6
theorem rulesOf_like (kind : ByteArray) : SmallR (rulesOf kind) := by
 unfold rulesOf
 split
 ·exact ⟨by decide, by decide⟩
 ·split
  ·exact ⟨by decide, by decide⟩
  ·split
   ·exact ⟨by decide, by decide⟩
   ·exact ⟨by decide, by simp⟩
def PlacePost (R : List Plain) (key : ByteArray) (e : Ending) : Prop := (pickR R key = none ∧ e = .returned (.int .i64 (-1))) ∨ ∃ D p T, R = D ++ p :: T ∧ pickR R key = some p ∧ e = .returned (.int .i64 (D.length : Int))
theorem place_hit {D T : List RAt} {r : RAt} {key : ByteArray} (h : pickR ((D ++ r :: T).map RAt.plain) key = some r.plain) : PlacePost ((D ++ r :: T).map RAt.plain) key (.returned (.int .i64 (D.length : Int))) :=
 .inr ⟨D.map RAt.plain, r.plain, T.map RAt.plain, by simp, h, by simp⟩
set_option maxHeartbeats 1000000 in
set_option maxRecDepth 100000 in
theorem l2Rule_any (kind key : ByteArray) (w : World) : Calls Tryz.prog 73 #[.string kind, .string key] w fun e w' => Below w.heap.size w w' ∧ PlacePost (rulesOf kind) key e := by
 have hsm := rulesOf_like kind
 have HS := specRules_any kind w
 generalize rulesOf kind = R at hsm HS ⊢
 go_enter Tryz.func73, Tryz.ntmps73
 go_wp2_with (go_at_call 68; refine HS.mono ?_)
 rintro e w1 ⟨v, L, rfl, hp, hr, hb⟩
 clear HS
 have hr' := hr.rm
 obtain ⟨ao, cap, rfl, f1⟩ := own_form (show w1.ownsRow w.heap.size 105 4 v L.length (L.flatMap RAt.cells) from Mem.head hr)
 have hl : L.length ≤ 12 := by have := hsm.1; rw [← hp, List.length_map] at this; exact this
 generalize hn : L.length = n at *
 go_wp2
 go_loop [6] (fun i => ∃ j : Nat, j ≤ n ∧ i = .int .i64 (j : Int) ∧ NoneTo L key j) (fun i => n - (intOf i).toNat)
 case atStart => exact ⟨0, by omega, rfl, NoneTo.zero _ _⟩
 case round =>
  obtain ⟨j, hj, rfl, hA⟩ := hrel
  by_cases hlt : j < n
  ·rcases f1 with f1 | ⟨g, rfl⟩
   ·omega
   obtain ⟨D, r, T, rfl, hD⟩ := split1 L j (by omega)
   have c0 := hr'.cell 0 (by decide)
   obtain ⟨rk, va, ns, many, vd, ds⟩ := r
   simp only [RAt.cells, hD, List.getElem?_cons_zero, Nat.add_zero] at c0
   subst hD
   cases hk : (rk.toList == key.toList)
   ·have HA := hA.succ hk
    clear hA hr hr' hsm
    go_wp2
    go_round
    case rel => exact ⟨D.length + 1, by omega, by go_num, HA⟩
    case measure => simp [intOf]; omega
   ·have HA := hid_in (hA.hit hk)
    clear hA hr hr' hsm
    go_wp2
    go_ret
    subst hp
    exact ⟨hb, place_hit HA.out⟩
  ·obtain rfl : j = n := by omega
   have HA := hid_in (NoneTo.none (hn ▸ hA))
   clear hA hr hr' hsm
   go_wp2
   go_ret
   exact ⟨hb, .inl ⟨hp ▸ HA.out, rfl⟩⟩
set_option maxHeartbeats 2000000 in
set_option maxRecDepth 100000 in
theorem specFits_any {nw cw : Nat} {wo : Option Addr} (kind key : ByteArray) {ws : List (List UInt8)} {w : World} (h2 : HasRow w (.slice wo nw cw) nw 1 (strs ws)) (hw : nw ≤ 1048576) (hs : ∀ x ∈ ws, x.length ≤ 1048576) :
  Calls Tryz.prog 106 #[.string kind, .string key, .slice wo nw cw] w fun e w' => e = .returned (.bool (fitsIn (rulesOf kind) key ws)) ∧ Below w.heap.size w w' := by
 have l2 : ws.length = nw := by have := h2.1; rw [strs_length] at this; omega
 have hsm := rulesOf_like kind
 have HS := fun W => specRules_any kind W
 have HR := l2Rule_any kind key w
 generalize rulesOf kind = R at hsm HS HR ⊢
 go_enter Tryz.func106, Tryz.ntmps106
 go_wp2_with (go_at_call 73; refine HR.mono ?_)
 rintro e w1 ⟨b1, ⟨hp, rfl⟩ | ⟨D, p, T, rfl, hp, rfl⟩⟩
 ·clear HS HR
  go_wp2
  go_ret
  exact ⟨ret_bool (fitsIn_none ws hp).symm, b1⟩
 ·clear HR
  have hk0 : ¬ ((D.length : Int) < 0) := by omega
  go_wp2_with (go_at_call 68; refine (HS w1).mono ?_)
  rintro e w2 ⟨v, L, rfl, hpl, hr, b2⟩
  have hLl : L.length = D.length + (T.length + 1) := by have := congrArg List.length hpl; simpa using this
  obtain ⟨D', r, T', rfl, hD⟩ := split1 L D.length (by omega)
  have hrp : r.plain = p := by
   have := congrArg (fun l => l[D.length]?) hpl
   simp only [List.map_append, List.map_cons] at this
   rw [List.getElem?_append_right (by simp; omega), List.getElem?_append_right (by simp)] at this
   simpa [hD] using this
  have hr' := hr.rm
  have hsp := hsm.2 p (by simp)
  have HF := hid_in (show fitsWords r.plain.2.1 ws = fitsIn (D ++ p :: T) key ws by rw [hrp, fitsIn_some ws hp])
  rw [← hrp] at hsp
  obtain ⟨ao, cap, rfl, f1⟩ := own_form (show w2.ownsRow w1.heap.size 105 4 v (D' ++ r :: T').length ((D' ++ r :: T').flatMap RAt.cells) from Mem.head hr)
  rcases f1 with f1 | ⟨g, rfl⟩
  ·simp at f1
  have c1 := hr'.cell 1 (by decide)
  have o1 := hr'.args
  obtain ⟨rk, va, ns, many, vd, ds⟩ := r
  simp only [RAt.cells, RAt.plain, hD, List.getElem?_cons_zero, List.getElem?_cons_succ] at c1 o1 hsp HF
  have l1 : ns.length ≤ 3 := hsp.1
  have hN : (D' ++ ⟨rk, va, ns, many, vd, ds⟩ :: T').length = D.length + (T.length + 1) := hLl
  rw [hN]
  have h2' := (h2.below b1).below b2
  generalize hns : ns.length = n at *
  obtain ⟨bo, cb, rfl, f1⟩ := own_form o1
  have hlt : (D.length : Int) < ((D.length + (T.length + 1) : Nat) : Int) := by omega
  have b12 := b1.trans (b2.mono b1.size)
  clear HS hr hr' hsm hrp hpl hp h2 hLl
  by_cases hlen : n = nw
  ·subst hlen
   have hn0 : ((n : Int) != (n : Int)) = false := by simp
   go_wp2
   go_loopw [9] (fun i wr => ∃ j : Nat, j ≤ n ∧ i = .int .i64 (j : Int) ∧ Below w2.heap.size w2 wr ∧ FitTo ns ws j) (fun i _ => n - (intOf i).toNat)
   case atStart => exact ⟨0, by omega, rfl, Below.refl _ _, FitTo.zero _ _⟩
   case round =>
    obtain ⟨j, hj, rfl, hbw, hA⟩ := hrel
    by_cases hlt : j < n
    ·rcases f1 with f1 | ⟨q, rfl⟩
     ·omega
     obtain ⟨h, off, rfl, c2⟩ := (h2'.below hbw).word j (by omega)
     have c1 := (own_below o1 hbw).cellAt j (by omega)
     rw [ints_cell ns j (by omega)] at c1
     have H := fun W => l2Fits_any ns[j] (hsp.2 _ (List.getElem_mem _)).1 (hsp.2 _ (List.getElem_mem _)).2 ⟨ws[j].toArray⟩ W (by simpa [ByteArray.size] using hs ws[j] (List.getElem_mem _))
     have e1 := World.block_lt_of_cell? wr _ c1
     have e2 := World.block_lt_of_cell? wr _ c2
     cases hf : fitsB ns[j] ws[j]
     ·have HB := hid_in (show false = fitsIn (D ++ p :: T) key ws by rw [← HF.out]; exact (fitsWords_no j (by omega) (by omega) hf).symm)
      have H' : ∀ W, Calls Tryz.prog 172 #[.int .i64 ns[j], .string ⟨ws[j].toArray⟩] W fun e w' => e = .returned (.bool false) ∧ Below W.heap.size W w' := by rw [← hf]; exact H
      generalize ns[j] = x at *
      generalize (⟨ws[j].toArray⟩ : ByteArray) = y at *
      clear H hA hf hs hsp o1 h2' HF
      go_wp2
      go_region_held3 (fun W => W.cell? ⟨q, j, none⟩ = some (.int .i64 x) ∧ W.cell? ⟨h, off + j, none⟩ = some (.string y))
       (first | go_keep | (refine ⟨(b3.cell e1).trans c1, (b3.cell e2).trans c2⟩))
       (first | (go_at_call 172; refine (H' _).mono ?_; rintro e w3 ⟨rfl, b3⟩))
      all_goals
       go_wp2
       go_ret
       exact ⟨ret_bool HB.out, b12.trans ((hbw.trans (((Below.refl wr.heap.size wr).drew.trans b3).mono hbw.size)).mono b12.size)⟩
     ·have HA := hA.succ (by omega) (by omega) hf
      have H' : ∀ W, Calls Tryz.prog 172 #[.int .i64 ns[j], .string ⟨ws[j].toArray⟩] W fun e w' => e = .returned (.bool true) ∧ Below W.heap.size W w' := by rw [← hf]; exact H
      generalize ns[j] = x at *
      generalize (⟨ws[j].toArray⟩ : ByteArray) = y at *
      clear H hA hf hs hsp o1 h2' HF
      go_wp2
      go_region_held3 (fun W => W.cell? ⟨q, j, none⟩ = some (.int .i64 x) ∧ W.cell? ⟨h, off + j, none⟩ = some (.string y))
       (first | go_keep | (refine ⟨(b3.cell e1).trans c1, (b3.cell e2).trans c2⟩))
       (first | (go_at_call 172; refine (H' _).mono ?_; rintro e w3 ⟨rfl, b3⟩))
      all_goals
       go_wp2
       go_roundw
       case rel => exact ⟨j + 1, by omega, by go_num, hbw.trans (((Below.refl wr.heap.size wr).drew.trans b3).mono hbw.size), HA⟩
       case measure => simp [intOf]; omega
    ·obtain rfl : j = n := by omega
     have HB := hid_in (show true = fitsIn (D ++ p :: T) key ws by rw [← HF.out]; exact (FitTo.all (by rw [hns]; exact hA) (by omega)).symm)
     clear hA HF
     go_wp2
     go_ret
     exact ⟨ret_bool HB.out, b12.trans (hbw.mono b12.size)⟩
  ·have hn0 : ((n : Int) != (nw : Int)) = true := by rw [bne_iff_ne]; omega
   have HB := hid_in (show false = fitsIn (D ++ p :: T) key ws by rw [← HF.out, fitsWords_len (by omega)])
   go_wp2
   go_ret
   exact ⟨ret_bool HB.out, b12⟩
end Go.Proofs.YtpdahhnjhggocabGreatDoor
namespace Go.Proofs.YtpdahhnjhggocabGreatDoor
open Go.RowKit
open Go.Lib (decDigits)
end Go.Proofs.YtpdahhnjhggocabGreatDoor
