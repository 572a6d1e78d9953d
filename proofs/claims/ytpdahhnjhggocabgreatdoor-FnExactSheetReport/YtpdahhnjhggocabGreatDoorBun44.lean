import Derived.Test.YtpdahhnjhggocabGreatDoorBun42
import Derived.Test.YtpdahhnjhggocabGreatDoorBun40
import Derived.Test.YtpdahhnjhggocabGreatDoorBun39
import Derived.Test.YtpdahhnjhggocabGreatDoorBun37
import Derived.Test.YtpdahhnjhggocabGreatDoorBun35
import Derived.Test.YtpdahhnjhggocabGreatDoorBun30
import Derived.Test.YtpdahhnjhggocabGreatDoorBun29
import Derived.Test.YtpdahhnjhggocabGreatDoorBun27
import Derived.Test.YtpdahhnjhggocabGreatDoorBun18
namespace Go.Proofs.YtpdahhnjhggocabGreatDoor
open Go.RowKit
open Go.Lib (decDigits)
theorem headFault_range (es : List PBlock) (kind name : ByteArray) : headFault es kind name = 0 ∨ (1 ≤ headFault es kind name ∧ headFault es kind name ≤ 11) := by
 unfold headFault
 split
 ·right; decide
 split
 ·right; decide
 split
 ·right; decide
 split
 ·right; decide
 ·left; rfl
theorem lineFault_range (R : List Plain) (es : List PLine) (a : PLine) : lineFault R es a = 0 ∨ (1 ≤ lineFault R es a ∧ lineFault R es a ≤ 11) := by
 unfold lineFault
 split
 ·right; decide
 split
 ·right; decide
 split
 ·right; decide
 split
 ·right; decide
 ·left; rfl
theorem step_code {done : List PBlock} {op : Option PBlock} {x : List UInt8} {ws : List (List UInt8)} (h : (stepW done op x ws).1 ≠ 0) : 1 ≤ (stepW done op x ws).1 ∧ (stepW done op x ws).1 ≤ 11 := by
 revert h
 unfold stepW
 split
 ·split
  ·exact fun h => (headFault_range _ _ _).resolve_left h
  ·intro _; simp
 ·split
  ·intro h; simp at h
  ·exact fun h => (lineFault_range _ _ _).resolve_left h
theorem parseGo_code : ∀ (ls : List (List UInt8)) (n : Nat) (done : List PBlock) (op : Option PBlock) (k : Nat) (c : Int), parseGo n done op ls = .bad k c → 1 ≤ c ∧ c ≤ 11
 | [], n, done, none, k, c, e => by cases e
 | [], n, done, some b, k, c, e => by cases e; decide
 | l :: ls, n, done, op, k, c, e => by
  unfold parseGo at e
  split at e
  ·cases e; decide
  ·exact parseGo_code ls _ _ _ k c e
  ·split at e
   ·rename_i h; cases e; exact step_code h
   ·exact parseGo_code ls _ _ _ k c e
theorem parseT_bad {t : List UInt8} {n : Nat} {c : Int} (h : parseT t = .bad n c) : n ≤ 401 ∧ 1 ≤ c ∧ c ≤ 11 := by
 unfold parseT at h
 split at h
 ·cases h; decide
 ·rename_i hl
  have h1 := parseGo_line _ _ _ _ _ _ h
  exact ⟨by omega, parseGo_code _ _ _ _ _ _ h⟩
def TextIs (l : List UInt8) (w : World) (e : Ending) (w' : World) : Prop := ∃ t : ByteArray, e = .returned (.string t) ∧ t.data.toList = l ∧ Below w.heap.size w w'
theorem changeMark_any (what : Int) (w : World) : Calls Tryz.prog 226 #[.int .i64 what] w fun e w' => e = .returned (.string ⟨(signC what).toArray⟩) ∧ Below w.heap.size w w' := by
 unfold signC
 by_cases h1 : what = 1
 ·subst h1
  go_enter Tryz.func226, Tryz.ntmps226
  go_wp2
  go_ret
  exact ⟨rfl, Below.refl _ _⟩
 ·by_cases h2 : what = 2
  ·subst h2
   go_enter Tryz.func226, Tryz.ntmps226
   go_wp2
   go_ret
   exact ⟨rfl, Below.refl _ _⟩
  ·rw [if_neg h1, if_neg h2]
   have k1 : (what == 1) = false := by simpa using h1
   have k2 : (what == 2) = false := by simpa using h2
   go_enter Tryz.func226, Tryz.ntmps226
   go_wp2
   go_ret
   exact ⟨rfl, Below.refl _ _⟩
def FaultAt (w : World) : Prop := ∀ k : Nat, k < 12 → w.cell? ⟨1, k, none⟩ = some (.string ⟨(faultT (k : Int)).toArray⟩)
theorem FaultAt.below {w w' : World} (h : FaultAt w) (hb : Below w.heap.size w w') : FaultAt w' := fun k hk => (hb.cell (World.block_lt_of_cell? w _ (h k hk))).trans (h k hk)
theorem faultT_le (k : Nat) (h : k < 12) : (faultT (k : Int)).length ≤ 30 := by
 match k, h with
 | 0, _ | 1, _ | 2, _ | 3, _ | 4, _ | 5, _ | 6, _ | 7, _ | 8, _ | 9, _ | 10, _ | 11, _ => decide
theorem dec_seven (n : Nat) (h : n ≤ 401) : (decDigits n).length ≤ 7 := by rw [Lib.decDigits_length]; exact nDigits_max _ (by omega)
set_option maxHeartbeats 2000000 in
set_option maxRecDepth 100000 in
theorem tellFault_any (name : ByteArray) (n k : Nat) {w : World} (hn : name.size ≤ 1000) (hl : n ≤ 401) (h1 : 1 ≤ k) (h2 : k ≤ 11) (hst : StdAt w) (hf : FaultAt w) : Calls Tryz.prog 168 #[.string name, .agg #[.int .i64 (n : Int), .int .i64 (k : Int)]] w fun e w' => TextIs (faultL name.data.toList n (k : Int)) w e w' := by
 have b0 := (Below.refl w.heap.size w).alloc (Nat.le_refl _) (.cells #[.int .i64 (n : Int), .int .i64 (k : Int)] 26)
 have z0 := BlkAt.new w #[.int .i64 (n : Int), .int .i64 (k : Int)] 26
 have c0 := cell_of_block z0 0
 have c1 := cell_of_block z0 1
 simp only [List.getElem?_toArray, List.getElem?_cons_zero, List.getElem?_cons_succ] at c0 c1
 have HI := itoa_any (n : Int) (by omega) (by omega) (w.alloc (.cells #[.int .i64 (n : Int), .int .i64 (k : Int)] 26)) (hst.below b0)
 obtain ⟨d, hd⟩ : ∃ d : ByteArray, d = ⟨(Lib.itoa (n : Int)).toArray⟩ := ⟨_, rfl⟩
 have hd' : d.data.toList = decDigits n := by rw [hd]; unfold Lib.itoa; rw [if_neg (by omega)]; simp
 have hds : d.size ≤ 7 := by have := dec_seven n hl; rw [← hd'] at this; simpa using this
 rw [← hd] at HI
 obtain ⟨x, hx⟩ : ∃ x : ByteArray, x = ⟨(faultT (k : Int)).toArray⟩ := ⟨_, rfl⟩
 have hx' : x.data.toList = faultT (k : Int) := by rw [hx]
 have hxs : x.size ≤ 30 := by have := faultT_le k (by omega); rw [← hx'] at this; simpa using this
 have g0 := hf k (by omega)
 rw [← hx] at g0
 have HG := hid_in (show ∀ W, Below w.heap.size w W → W.cell? ⟨1, k, none⟩ = some (.string x) from fun W hW => (hW.cell (World.block_lt_of_cell? w _ g0)).trans g0)
 have HDX := hid_in (show faultL name.data.toList n (k : Int) = name.data.toList ++ (if (k : Int) = 11 then [] else 58 :: d.data.toList) ++ [58, 32] ++ x.data.toList from by rw [hd', hx']; rfl)
 generalize faultL name.data.toList n (k : Int) = FL at *
 have i1 : (0 : Int) ≤ (k : Int) := by omega
 have i2 : (k : Int) < 12 := by omega
 clear hst hf hx hx' hd hd' g0
 by_cases hk : k = 11
 ·have hk' : ((k : Int) != 11) = false := by simp; omega
  have hk2 : (k : Int) = 11 := by omega
  have HK2 := hid_in hk2
  clear hk hk2
  have g1 := HG.out _ b0
  have f1 : ¬ 9223372036854775807 < name.size + 2 := by omega
  have f2 : ¬ 9223372036854775807 < name.size + 2 + x.size := by omega
  go_enter Tryz.func168, Tryz.ntmps168
  go_wp2
  go_ret
  exact ⟨_, rfl, by rw [HDX.out, if_pos HK2.out]; simp, b0⟩
 ·have hk' : ((k : Int) != 11) = true := by simp; omega
  have hk2 : ¬ (k : Int) = 11 := by omega
  go_enter Tryz.func168, Tryz.ntmps168
  go_wp2_with (go_at_call 225; refine HI.mono ?_)
  first | rintro e w2 rfl b2 | rintro e w2 ⟨rfl, b2⟩
  have B2 := b0.trans (b2.mono b0.size)
  have g1 := HG.out _ B2
  have d0 := (b2.cell (World.block_lt_of_cell? _ _ c0)).trans c0
  have d1 := (b2.cell (World.block_lt_of_cell? _ _ c1)).trans c1
  have f0 : ¬ 9223372036854775807 < 1 + d.size := by omega
  have f1 : ¬ 9223372036854775807 < name.size + (1 + d.size) := by omega
  have f2 : ¬ 9223372036854775807 < name.size + (1 + d.size) + 2 := by omega
  have f3 : ¬ 9223372036854775807 < name.size + (1 + d.size) + 2 + x.size := by omega
  clear HI c0 c1
  go_wp2
  go_ret
  exact ⟨_, rfl, by rw [HDX.out, if_neg hk2]; simp, B2⟩
end Go.Proofs.YtpdahhnjhggocabGreatDoor
namespace Go.Proofs.YtpdahhnjhggocabGreatDoor
open Go.RowKit
open Go.Lib (decDigits)
def faultA : Array Value := #[.string ⟨#[]⟩, .string ⟨#[97, 32, 119, 111, 114, 100, 32, 116, 104, 97, 116, 32, 105, 115, 32, 110, 111, 110, 101]⟩, .string ⟨#[97, 32, 108, 105, 110, 101, 32, 111, 117, 116, 115, 105, 100, 101, 32, 111, 102, 32, 98, 108, 111, 99, 107, 115]⟩, .string ⟨#[110, 111, 32, 115, 117, 99, 104, 32, 107, 105, 110, 100]⟩, .string ⟨#[110, 111, 32, 115, 117, 99, 104, 32, 110, 97, 109, 101]⟩, .string ⟨#[110, 111, 32, 115, 117, 99, 104, 32, 107, 101, 121]⟩, .string ⟨#[115, 97, 105, 100, 32, 116, 119, 105, 99, 101]⟩, .string ⟨#[110, 111, 116, 32, 119, 104, 97, 116, 32, 116, 104, 101, 32, 107, 101, 121, 32, 116, 97, 107, 101, 115]⟩, .string ⟨#[97, 32, 98, 108, 111, 99, 107, 32, 116, 104, 97, 116, 32, 105, 115, 32, 110, 111, 116, 32, 101, 110, 100, 101, 100]⟩, .string ⟨#[97, 32, 98, 108, 111, 99, 107, 32, 97, 103, 97, 105, 110]⟩, .string ⟨#[116, 111, 111, 32, 109, 97, 110, 121]⟩, .string ⟨#[116, 111, 111, 32, 108, 111, 110, 103]⟩]
theorem faultA_get (k : Nat) (h : k < 12) : faultA[k]? = some (.string ⟨(faultT (k : Int)).toArray⟩) := by
 match k, h with
 | 0, _ | 1, _ | 2, _ | 3, _ | 4, _ | 5, _ | 6, _ | 7, _ | 8, _ | 9, _ | 10, _ | 11, _ => rfl
set_option maxHeartbeats 2000000 in
set_option maxRecDepth 100000 in
theorem l8Fault_any (name : ByteArray) (n k : Nat) {w : World} (hn : name.size ≤ 1000) (hl : n ≤ 401) (h1 : 1 ≤ k) (h2 : k ≤ 11) : Calls Tryz.prog 99 #[.string name, .agg #[.int .i64 (n : Int), .int .i64 (k : Int)]] w fun e w' => TextIs (faultL name.data.toList n (k : Int) ++ [10]) w e w' := by
 have b0 := (Below.refl w.heap.size w).alloc (Nat.le_refl _) (.cells #[.int .i64 (n : Int), .int .i64 (k : Int)] 26)
 have z0 := BlkAt.new w #[.int .i64 (n : Int), .int .i64 (k : Int)] 26
 have b1 := (Below.refl _ (w.alloc (.cells #[.int .i64 (n : Int), .int .i64 (k : Int)] 26))).alloc (Nat.le_refl _) (.cells faultA 9)
 have z1 := BlkAt.new (w.alloc (.cells #[.int .i64 (n : Int), .int .i64 (k : Int)] 26)) faultA 9
 have B1 := b0.trans (b1.mono b0.size)
 have z0' := z0.below b1
 rw [World.size_alloc] at z1
 have HD := fun W => l2Dec_any n W (by omega)
 obtain ⟨d, hd⟩ : ∃ d : ByteArray, d = ⟨(decDigits n).toArray⟩ := ⟨_, rfl⟩
 have hd' : d.data.toList = decDigits n := by rw [hd]
 have hds : d.size ≤ 7 := by have := dec_seven n hl; rw [← hd'] at this; simpa using this
 simp only [← hd] at HD
 obtain ⟨x, hx⟩ : ∃ x : ByteArray, x = ⟨(faultT (k : Int)).toArray⟩ := ⟨_, rfl⟩
 have hx' : x.data.toList = faultT (k : Int) := by rw [hx]
 have hxs : x.size ≤ 30 := by have := faultT_le k (by omega); rw [← hx'] at this; simpa using this
 have g0 := (cell_of_block z1 k).trans (faultA_get k (by omega))
 rw [← hx] at g0
 have c0 := cell_of_block z0' 0
 have c1 := cell_of_block z0' 1
 simp only [List.getElem?_toArray, List.getElem?_cons_zero, List.getElem?_cons_succ] at c0 c1
 have HDX := hid_in (show faultL name.data.toList n (k : Int) ++ [10] = name.data.toList ++ (if (k : Int) = 11 then [] else 58 :: d.data.toList) ++ [58, 32] ++ x.data.toList ++ [10] from by rw [hd', hx']; rfl)
 generalize faultL name.data.toList n (k : Int) ++ [10] = FL at *
 have i1 : (0 : Int) ≤ (k : Int) := by omega
 have i2 : (k : Int) < 12 := by omega
 clear hx hx' hd hd' z0 z0' z1 b0 b1
 unfold faultA at B1 g0 c0 c1
 generalize hW1 : (w.alloc (.cells #[.int .i64 (n : Int), .int .i64 (k : Int)] 26)).alloc (.cells #[.string ⟨#[]⟩, .string ⟨#[97, 32, 119, 111, 114, 100, 32, 116, 104, 97, 116, 32, 105, 115, 32, 110, 111, 110, 101]⟩, .string ⟨#[97, 32, 108, 105, 110, 101, 32, 111, 117, 116, 115, 105, 100, 101, 32, 111, 102, 32, 98, 108, 111, 99, 107, 115]⟩, .string ⟨#[110, 111, 32, 115, 117, 99, 104, 32, 107, 105, 110, 100]⟩, .string ⟨#[110, 111, 32, 115, 117, 99, 104, 32, 110, 97, 109, 101]⟩, .string ⟨#[110, 111, 32, 115, 117, 99, 104, 32, 107, 101, 121]⟩, .string ⟨#[115, 97, 105, 100, 32, 116, 119, 105, 99, 101]⟩, .string ⟨#[110, 111, 116, 32, 119, 104, 97, 116, 32, 116, 104, 101, 32, 107, 101, 121, 32, 116, 97, 107, 101, 115]⟩, .string ⟨#[97, 32, 98, 108, 111, 99, 107, 32, 116, 104, 97, 116, 32, 105, 115, 32, 110, 111, 116, 32, 101, 110, 100, 101, 100]⟩, .string ⟨#[97, 32, 98, 108, 111, 99, 107, 32, 97, 103, 97, 105, 110]⟩, .string ⟨#[116, 111, 111, 32, 109, 97, 110, 121]⟩, .string ⟨#[116, 111, 111, 32, 108, 111, 110, 103]⟩] 9) = W1 at *
 have EW := hid_in hW1
 clear hW1
 go_enter Tryz.func99, Tryz.ntmps99
 go_upto_region 2 with fail
 rw [EW.out]
 clear EW
 by_cases hk : k = 11
 ·have hk' : ((k : Int) == 11) = true := by simp; omega
  have HK2 := hid_in (show (k : Int) = 11 by omega)
  have f1 : ¬ 9223372036854775807 < name.size + 2 := by omega
  have f2 : ¬ 9223372036854775807 < name.size + 2 + x.size := by omega
  have f3 : ¬ 9223372036854775807 < name.size + 2 + x.size + 1 := by omega
  clear hk
  go_wp2
  go_ret
  exact ⟨_, rfl, by rw [HDX.out, if_pos HK2.out]; simp, B1⟩
 ·have hk' : ((k : Int) == 11) = false := by rw [beq_eq_false_iff_ne]; omega
  have HK2 := hid_in (show ¬ (k : Int) = 11 by omega)
  have f1 : ¬ 9223372036854775807 < name.size + 1 := by omega
  have f2 : ¬ 9223372036854775807 < name.size + 1 + d.size := by omega
  have f3 : ¬ 9223372036854775807 < name.size + 1 + d.size + 2 := by omega
  have f4 : ¬ 9223372036854775807 < name.size + 1 + d.size + 2 + x.size := by omega
  have f5 : ¬ 9223372036854775807 < name.size + 1 + d.size + 2 + x.size + 1 := by omega
  have u0 := fun p : Gr W1 => gr_cell c0 p
  have u1 := fun p : Gr W1 => gr_cell c1 p
  have u2 := fun p : Gr W1 => gr_cell g0 p
  clear hk
  go_upto_region 4 with fail
  refine wp_region_gr (by kernel_rfl) (by kernel_rfl) ?_
  iterate 4 quiet_step (fail)
  quiet_step ((go_at_call 166; refine gr_of (HD _)))
  iterate 10 quiet_step (fail)
  refine wpQuiet_nil ?_
  rintro wq ⟨⟨_, bq⟩, rfl⟩
  clear u0 u1 u2 c0 c1 g0
  go_wp2
  go_ret
  exact ⟨_, rfl, by rw [HDX.out, if_neg HK2.out]; simp, B1.trans (bq.mono B1.size)⟩
end Go.Proofs.YtpdahhnjhggocabGreatDoor
namespace Go.Proofs.YtpdahhnjhggocabGreatDoor
open Go.RowKit
theorem size_toList (t : ByteArray) : t.data.toList.length = t.size := by simp
theorem ok_small {bs : List BAt} (h : SheetOk (bs.map BAt.plain)) : BlocksSmall bs := by
 have hl := h.1
 rw [List.length_map] at hl
 refine ⟨by omega, fun b hb => ?_⟩
 have h1 := h.2.1 b.plain (List.mem_map_of_mem hb)
 have h2 := (name_bare h1.2.1).2
 have h3 := (lines_le h1.2.2).1
 have e : b.plain.lines.length = b.ls.length := List.length_map ..
 rw [size_toList] at h2
 refine ⟨Nat.le_trans h2 (by decide), by omega, fun x hx => ?_⟩
 have h4 := fits_line (h1.2.2.1 x.plain (List.mem_map_of_mem hx))
 exact ⟨Nat.le_trans h4.2.2.2.1 (by decide), fun y hy => Nat.le_trans (h4.2.2.2.2 y hy) (by decide)⟩
theorem sParse_bad (s : ByteArray) {w : World} {m : Nat} {c : Int} (hs : s.size ≤ 4000000) (hP : parseT s.data.toList = .bad m c) : Calls Tryz.prog 12 #[.string s] w fun e w' => e = .returned (.tuple #[.agg #[.slice none 0 0], .agg #[.int .i64 (m : Int), .int .i64 c]]) ∧ Below w.heap.size w w' := by
 refine (specParse_any s w hs).mono ?_
 rintro e w' ⟨b, h⟩
 rw [hP] at h
 exact ⟨h, b⟩
def ReadOk (bs : List PBlock) (w : World) (e : Ending) (w' : World) : Prop := ∃ a n c bs', e = .returned (.tuple #[.agg #[.slice a n c], .agg #[.int .i64 0, .int .i64 0]]) ∧ (bs'.map BAt.plain = normBs bs ∧ BlocksIn w' (.slice a n c) bs') ∧ Below w.heap.size w w'
theorem sParse_good (s : ByteArray) {w : World} {bs : List PBlock} (hs : s.size ≤ 4000000) (hP : parseT s.data.toList = .good bs) : Calls Tryz.prog 12 #[.string s] w fun e w' => ReadOk bs w e w' := by
 refine (specParse_any s w hs).mono ?_
 rintro e w' ⟨b, h⟩
 rw [hP] at h
 obtain ⟨v', bs', rfl, hp, ho⟩ := h
 obtain ⟨a, c, rfl, _⟩ := own_form ho.row
 exact ⟨a, _, c, bs', rfl, ⟨hp, ho.bin⟩, b⟩
theorem boxesR (w : World) (x : Value) (m c : Int) : Below w.heap.size w ((w.alloc (.cells #[x] 24)).alloc (.cells #[.int .i64 m, .int .i64 c] 26)) ∧ ((w.alloc (.cells #[x] 24)).alloc (.cells #[.int .i64 m, .int .i64 c] 26)).cell? ⟨w.heap.size, 0, none⟩ = some x ∧ ((w.alloc (.cells #[x] 24)).alloc (.cells #[.int .i64 m, .int .i64 c] 26)).cell? ⟨w.heap.size + 1, 0, none⟩ = some (.int .i64 m) ∧ ((w.alloc (.cells #[x] 24)).alloc (.cells #[.int .i64 m, .int .i64 c] 26)).cell? ⟨w.heap.size + 1, 1, none⟩ = some (.int .i64 c) := by
 have b0 := (Below.refl w.heap.size w).alloc (Nat.le_refl _) (.cells #[x] 24)
 have b1 := (Below.refl (w.alloc (.cells #[x] 24)).heap.size (w.alloc (.cells #[x] 24))).alloc (Nat.le_refl _) (.cells #[.int .i64 m, .int .i64 c] 26)
 have z0 := alloc_here w (.cells #[x] 24)
 have z1 := alloc_here (w.alloc (.cells #[x] 24)) (.cells #[.int .i64 m, .int .i64 c] 26)
 have y0 := cell_of_block ((b1.block w.heap.size (by simp)).trans z0) 0
 have y1 := cell_of_block z1 0
 have y2 := cell_of_block z1 1
 simp only [List.getElem?_toArray, List.getElem?_cons_zero, List.getElem?_cons_succ, World.size_alloc] at y0 y1 y2
 exact ⟨b0.trans (b1.mono b0.size), y0, y1, y2⟩
def DfPost (P : List PChange) (w : World) (e : Ending) (w' : World) : Prop := ∃ a n c cs, e = .returned (.slice a n c) ∧ (cs.map CAt.plain = P ∧ cs.length = n ∧ ∀ x ∈ cs, LinesSmall x.ls) ∧ ChangesIn w' (.slice a n c) cs ∧ Below w.heap.size w w'
theorem df_of {P : List PChange} {w : World} {e : Ending} {w' : World} (h : DiffPost P w e w') : DfPost P w e w' := by
 obtain ⟨v', cs', rfl, hp, hs, _, ho, hb⟩ := h
 obtain ⟨a, c, rfl, _⟩ := own_form ho.row
 exact ⟨a, _, c, cs', rfl, ⟨hp, rfl, hs⟩, ho.cin, hb⟩
def ShIn (P : List PBlock) (w : World) (e : Ending) (w' : World) : Prop := ∃ a n c bs, e = .returned (.agg #[.slice a n c]) ∧ bs.map BAt.plain = P ∧ BlocksIn w' (.slice a n c) bs ∧ Below w.heap.size w w'
theorem sFill_in {v : Value} {bs : List BAt} {w W : World} (h : BlocksIn w v bs) (hok : SheetOk (bs.map BAt.plain)) (hb : Below w.heap.size w W) : Calls Tryz.prog 22 #[.agg #[v]] W fun e w' => ShIn (fillS (bs.map BAt.plain)) W e w' := by
 refine (specFill_any (h.below hb) (ok_small hok)).mono ?_
 rintro e w' ⟨v', bs', rfl, hp, ho, hb⟩
 obtain ⟨a, c, rfl, _⟩ := own_form ho.row
 exact ⟨a, _, c, bs', rfl, hp, ho.bin, hb⟩
theorem report_len {A B : List PBlock} (k : Nat) : (((diffS A B).take k).flatMap (fun c => tellC c ++ [10])).length ≤ 300000000 := by
 have h1 := flatm_len (fun c => tellC c ++ [10]) 260001 ((diffS A B).take k) (fun c hc => by
  have := tellC_le (diffS_ok (List.mem_of_mem_take hc))
  rw [List.length_append, List.length_singleton]; omega)
 have h2 : ((diffS A B).take k).length ≤ 780 := by rw [List.length_take]; have := diffS_len A B; omega
 have h3 : 260001 * ((diffS A B).take k).length ≤ 260001 * 780 := Nat.mul_le_mul_left _ h2
 omega
def signA : Array Value := #[.string ⟨#[]⟩, .string ⟨#[45]⟩, .string ⟨#[43]⟩, .string ⟨#[126]⟩, .string ⟨#[126]⟩]
theorem signA_get (q : Nat) (h1 : 1 ≤ q) (h2 : q ≤ 4) : signA[q]? = some (.string ⟨(signC (q : Int)).toArray⟩) := by
 match q, h1, h2 with
 | 1, _, _ | 2, _, _ | 3, _, _ | 4, _, _ => rfl
end Go.Proofs.YtpdahhnjhggocabGreatDoor
namespace Go.Proofs.YtpdahhnjhggocabGreatDoor
open Go.RowKit
def RepRel (w5 : World) (D : List PChange) (n : Nat) (out i : Value) (wr : World) : Prop := ∃ (k : Nat) (t : ByteArray), i = .int .i64 (k : Int) ∧ k ≤ n ∧ out = .string t ∧ t.data.toList = (D.take k).flatMap (fun c => tellC c ++ [10]) ∧ Below w5.heap.size w5 wr
def LnRel (w5 : World) (base : List UInt8) (ls : List PLine) (n : Nat) (out i : Value) (wr : World) : Prop := ∃ (j : Nat) (t : ByteArray), i = .int .i64 (j : Int) ∧ j ≤ n ∧ out = .string t ∧ t.data.toList = base ++ sepL (ls.take j) ∧ Below w5.heap.size w5 wr
def ChB (g : Nat) (q : Int) (k n y : ByteArray) (W : World) : Prop := W.cell? ⟨g, 0, none⟩ = some (.int .i64 q) ∧ W.cell? ⟨g, 1, none⟩ = some (.string k) ∧ W.cell? ⟨g, 2, none⟩ = some (.string n) ∧ W.cell? ⟨g, 3, none⟩ = some (.string y)
theorem ChB.below {g : Nat} {q : Int} {k n y : ByteArray} {w W : World} (s : ChB g q k n y w) (hb : Below w.heap.size w W) : ChB g q k n y W := ⟨(hb.cell (World.block_lt_of_cell? w _ s.1)).trans s.1, (hb.cell (World.block_lt_of_cell? w _ s.2.1)).trans s.2.1, (hb.cell (World.block_lt_of_cell? w _ s.2.2.1)).trans s.2.2.1, (hb.cell (World.block_lt_of_cell? w _ s.2.2.2)).trans s.2.2.2⟩
def ChS (g : Nat) (q : Int) (k n y : ByteArray) (h o : Nat) (sg : ByteArray) (W : World) : Prop := ChB g q k n y W ∧ W.cell? ⟨h, o, none⟩ = some (.string sg)
theorem bad_report {a b : List UInt8} {m k : Nat} (h : parseT a = .bad m (k : Int)) : reportS a b = faultL oldT m (k : Int) ++ [10] := by
 unfold reportS reportLs
 rw [h]
 simp
theorem bad_report2 {a b : List UInt8} {x : List PBlock} {m k : Nat} (h0 : parseT a = .good x) (h : parseT b = .bad m (k : Int)) : reportS a b = faultL newT m (k : Int) ++ [10] := by
 unfold reportS reportLs
 rw [h0, h]
 simp
theorem good_report {a b : List UInt8} {x y : List PBlock} (h0 : parseT a = .good x) (h : parseT b = .good y) : reportS a b = if diffS (fillS (normBs x)) (fillS (normBs y)) = [] then sameT ++ [10] else (diffS (fillS (normBs x)) (fillS (normBs y))).flatMap (fun c => tellC c ++ [10]) := by
 unfold reportS reportLs
 rw [h0, h]
 simp only
 split
 ·rename_i e; rw [e, if_pos rfl]; simp
 ·rename_i e; rw [if_neg (fun e' => e e'), List.flatMap_map]
set_option maxHeartbeats 16000000 in
set_option maxRecDepth 100000 in
theorem specReport_any (a b : ByteArray) {w : World} (ha : a.size ≤ 4000000) (hb : b.size ≤ 4000000) : Calls Tryz.prog 42 #[.string a, .string b] w fun e w' => TextIs (reportS a.data.toList b.data.toList) w e w' := by
 cases hPa : parseT a.data.toList with
 | bad m c =>
  obtain ⟨hm, hc1, hc2⟩ := parseT_bad hPa
  obtain ⟨k, rfl⟩ : ∃ k : Nat, c = (k : Int) := ⟨c.toNat, by omega⟩
  rw [bad_report hPa]
  have HS := sParse_bad a (w := w) ha hPa
  have hk0 : ((k : Int) != 0) = true := by simp; omega
  clear hPa
  go_enter Tryz.func42, Tryz.ntmps42
  go_wp2_with (go_at_call 12; refine HS.mono ?_)
  first | rintro e w1 rfl b1 | rintro e w1 ⟨rfl, b1⟩
  obtain ⟨x1, _, k1, k2⟩ := boxesR w1 (.slice none 0 0) (m : Int) (k : Int)
  have B1 := b1.trans (x1.mono b1.size)
  have HF := l8Fault_any ⟨#[111, 108, 100]⟩ m k (w := (w1.alloc (.cells #[.slice none 0 0] 24)).alloc (.cells #[.int .i64 (m : Int), .int .i64 (k : Int)] 26)) (by decide) hm (by omega) (by omega)
  clear HS x1 b1
  generalize hW1 : (w1.alloc (.cells #[.slice none 0 0] 24)).alloc (.cells #[.int .i64 (m : Int), .int .i64 (k : Int)] 26) = W1 at *
  go_wp2_with (go_at_call 99; (try rw [hW1]); refine HF.mono ?_)
  rintro e w2 ⟨t, rfl, ht, b2⟩
  have HT := hid_in ht
  have B2 := B1.trans (b2.mono B1.size)
  clear hW1 HF ht
  go_wp2
  go_ret
  exact ⟨t, rfl, HT.out, B2⟩
 | good x =>
  have HS := sParse_good a (w := w) ha hPa
  have OKX := hid_in (normBs_ok (parseT_good hPa))
  cases hPb : parseT b.data.toList with
  | bad m c =>
   obtain ⟨hm, hc1, hc2⟩ := parseT_bad hPb
   obtain ⟨k, rfl⟩ : ∃ k : Nat, c = (k : Int) := ⟨c.toNat, by omega⟩
   rw [bad_report2 hPa hPb]
   have HPB := hid_in hPb
   have hk0 : ((k : Int) != 0) = true := by simp; omega
   have h00 : ((0 : Int) != 0) = false := by decide
   clear hPa hPb
   go_enter Tryz.func42, Tryz.ntmps42
   go_wp2_with (go_at_call 12; refine HS.mono ?_)
   rintro e w1 ⟨xa, xn, xc, bs1, rfl, ⟨hp1, hin1⟩, b1⟩
   obtain ⟨x1, _, k1, k2⟩ := boxesR w1 (.slice xa xn xc) 0 0
   have B1 := b1.trans (x1.mono b1.size)
   have HS2 := sParse_bad b (w := (w1.alloc (.cells #[.slice xa xn xc] 24)).alloc (.cells #[.int .i64 0, .int .i64 0] 26)) hb HPB.out
   clear HS x1 b1 hp1 hin1
   generalize hW1 : (w1.alloc (.cells #[.slice xa xn xc] 24)).alloc (.cells #[.int .i64 0, .int .i64 0] 26) = W1 at *
   have EW := hid_in hW1
   clear hW1
   go_upto_region 2 with fail
   rw [EW.out]
   clear EW
   go_wp2_with (go_at_call 12; refine HS2.mono ?_)
   first | rintro e w2 rfl b2 | rintro e w2 ⟨rfl, b2⟩
   obtain ⟨x2, _, j1, j2⟩ := boxesR w2 (.slice none 0 0) (m : Int) (k : Int)
   have B2 := B1.trans (b2.mono B1.size)
   have B3 := B2.trans (x2.mono B2.size)
   have HF := l8Fault_any ⟨#[110, 101, 119]⟩ m k (w := (w2.alloc (.cells #[.slice none 0 0] 24)).alloc (.cells #[.int .i64 (m : Int), .int .i64 (k : Int)] 26)) (by decide) hm (by omega) (by omega)
   clear HS2 x2 b2 B2 B1 k1 k2
   generalize hW2 : (w2.alloc (.cells #[.slice none 0 0] 24)).alloc (.cells #[.int .i64 (m : Int), .int .i64 (k : Int)] 26) = W2 at *
   go_wp2_with (go_at_call 99; (try rw [hW2]); refine HF.mono ?_)
   rintro e w3 ⟨t, rfl, ht, b3⟩
   have HT := hid_in ht
   have B4 := B3.trans (b3.mono B3.size)
   clear hW2 HF ht
   go_wp2
   go_ret
   exact ⟨t, rfl, HT.out, B4⟩
  | good y =>
   have HREP := hid_in (good_report hPa hPb)
   have OKY := hid_in (normBs_ok (parseT_good hPb))
   have HPB := hid_in hPb
   generalize reportS a.data.toList b.data.toList = RS at *
   have h00 : ((0 : Int) != 0) = false := by decide
   clear hPa hPb
   go_enter Tryz.func42, Tryz.ntmps42
   go_wp2_with (go_at_call 12; refine HS.mono ?_)
   rintro e w1 ⟨xa, xn, xc, bs1, rfl, ⟨hp1, hin1⟩, b1⟩
   obtain ⟨x1, k0, k1, k2⟩ := boxesR w1 (.slice xa xn xc) 0 0
   have B1 := b1.trans (x1.mono b1.size)
   have HS2 := sParse_good b (w := (w1.alloc (.cells #[.slice xa xn xc] 24)).alloc (.cells #[.int .i64 0, .int .i64 0] 26)) hb HPB.out
   have IN1 := hid_in (hin1.below x1)
   have HP1 := hid_in hp1
   clear HS x1 b1 hp1 hin1
   generalize hW1 : (w1.alloc (.cells #[.slice xa xn xc] 24)).alloc (.cells #[.int .i64 0, .int .i64 0] 26) = W1 at *
   have EW := hid_in hW1
   clear hW1
   go_upto_region 2 with fail
   rw [EW.out]
   clear EW
   go_wp2_with (go_at_call 12; refine HS2.mono ?_)
   rintro e w2 ⟨ya, yn, yc, bs2, rfl, ⟨hp2, hin2⟩, b2⟩
   obtain ⟨x2, j0, j1, j2⟩ := boxesR w2 (.slice ya yn yc) 0 0
   have b2' := b2.trans (x2.mono b2.size)
   have B2 := hid_in (B1.trans (b2'.mono B1.size))
   have IN2 := hid_in (hin2.below x2)
   have IN1' := hid_in (IN1.out.below b2')
   have HP2 := hid_in hp2
   have T2 := hid_in (show Two w1.heap.size w2.heap.size (.slice xa xn xc) (.slice ya yn yc) _ from ⟨(b2'.cell (World.block_lt_of_cell? _ _ k0)).trans k0, j0⟩)
   clear HS2 x2 b2 b2' B1 k0 k1 k2 j0 hp2 hin2 IN1
   have EW := hid_in (rfl : (w2.alloc (.cells #[.slice ya yn yc] 24)).alloc (.cells #[.int .i64 0, .int .i64 0] 26) = (w2.alloc (.cells #[.slice ya yn yc] 24)).alloc (.cells #[.int .i64 0, .int .i64 0] 26))
   generalize hW2 : (w2.alloc (.cells #[.slice ya yn yc] 24)).alloc (.cells #[.int .i64 0, .int .i64 0] 26) = W2 at *
   clear EW
   have EW := hid_in hW2
   clear hW2
   go_upto_region 5 with fail
   rw [EW.out]
   clear EW
   have t1 : ∀ p : { W : World // Two w1.heap.size w2.heap.size (.slice xa xn xc) (.slice ya yn yc) W }, p.1.cell? ⟨w1.heap.size, 0, none⟩ = some (.slice xa xn xc) := fun p => p.2.1
   have t2 : ∀ p : { W : World // Two w1.heap.size w2.heap.size (.slice xa xn xc) (.slice ya yn yc) W }, p.1.cell? ⟨w2.heap.size, 0, none⟩ = some (.slice ya yn yc) := fun p => p.2.2
   letI : Inhabited { W : World // Two w1.heap.size w2.heap.size (.slice xa xn xc) (.slice ya yn yc) W } := ⟨⟨W2, T2.out⟩⟩
   have Bd : Below W2.heap.size W2 W2.drew := (Below.refl _ _).drew
   have HT1 := sFill_in IN1'.out (by rw [HP1.out]; exact OKX.out) Bd
   rw [HP1.out] at HT1
   go_upto_region 7 with fail
   refine wp_region_hold (S := Two w1.heap.size w2.heap.size (.slice xa xn xc) (.slice ya yn yc)) 5 6 (by kernel_rfl) rfl ?_
   refine wpHold_mask [true, false, true, false, false, false] 4 rfl (by kernel_rfl) (T2.out.below Bd) ?_
   simp only [maskL_t, maskL_f, maskL_n]
   iterate 2 (refine wpReads_step (fun K hK => ?_); go_simp; refine hK _ ?_; clear hK K)
   refine wpReads_nil ?_
   refine wpHold_branch (f := 3) (rs := [1]) (by kernel_rfl) (by simp) ?_
   refine AllHold.cons rfl (by decide) (fun K hK => ?_) AllHold.nil
   go_simp
   go_wp2_with (go_at_call 22; refine HT1.mono ?_; rintro e wa ⟨aa, na, ca, bsa, rfl, hpa, oa, ba⟩)
   have ba' := Bd.trans ba
   refine hK.out _ _ (T2.out.below ba') ?_
   clear hK K
   have HT2 := sFill_in IN2.out (by rw [HP2.out]; exact OKY.out) ba'
   rw [HP2.out] at HT2
   refine wpHold_branch (f := 2) (rs := [3]) (by kernel_rfl) (by simp) ?_
   refine AllHold.cons rfl (by decide) (fun K hK => ?_) AllHold.nil
   go_simp
   go_wp2_with (go_at_call 22; refine HT2.mono ?_; rintro e wb ⟨ab, nb, cb, bsb, rfl, hpb, ob, bb⟩)
   have bb' := ba'.trans (bb.mono ba'.size)
   refine hK.out _ _ (T2.out.below bb') ?_
   clear hK K
   have HD0 := (specDiff_any (oa.below bb) ob (ok_small (by rw [hpa, fillS_of OKX.out]; exact fillS_ok OKX.out)) (ok_small (by rw [hpb, fillS_of OKY.out]; exact fillS_ok OKY.out))).mono fun e w' h => df_of h
   rw [hpa, hpb] at HD0
   refine wpHold_branch (f := 1) (rs := [4]) (by kernel_rfl) (by simp) ?_
   refine AllHold.cons rfl (by decide) (fun K hK => ?_) AllHold.nil
   clear hpa hpb oa ob
   go_simp
   go_wp2_with (go_at_call 33; refine HD0.mono ?_; rintro e w5 ⟨da, dn, dc, cs, rfl, ⟨hp5, hl5, hs5⟩, hin5, b5⟩)
   have b5' := bb'.trans (b5.mono bb'.size)
   have B5 := hid_in (B2.out.trans (b5'.mono B2.out.size))
   refine hK.out _ _ (T2.out.below b5') ?_
   clear hK K HD0 HT1 HT2 t1 t2
   have HIN := hid_in hin5
   have HP5 := hid_in hp5
   have HL5 := hid_in hl5
   have HS5 := hid_in hs5
   clear hp5 hl5 hs5 hin5 b5 b5' bb bb' ba ba' Bd
   refine wpHold_last (by kernel_rfl) rfl (by kernel_rfl) ?_
   intro K hK
   go_simp
   refine hK.out _ _ (NoPanic.normal ?_)
   clear hK K
   have HOK := hid_in (show ∀ c ∈ diffS (fillS (normBs x)) (fillS (normBs y)), ChOk c from fun c hc => diffS_ok hc)
   have HRL := hid_in (show ∀ k, (((diffS (fillS (normBs x)) (fillS (normBs y))).take k).flatMap (fun c => tellC c ++ [10])).length ≤ 300000000 from fun k => report_len k)
   have hdn : dn ≤ 780 := by
    have := diffS_len (fillS (normBs x)) (fillS (normBs y))
    rw [← HP5.out, List.length_map, HL5.out] at this
    exact this
   generalize diffS (fillS (normBs x)) (fillS (normBs y)) = D at *
   have HI := hid_in (show RepRel w5 D dn (.string ⟨#[]⟩) (.int .i64 0) w5 from ⟨0, ⟨#[]⟩, rfl, by omega, rfl, by simp, Below.refl _ _⟩)
   go_wp2
   go_loopw [10, 11] (fun out i wr => RepRel w5 D dn out i wr) (fun _ i _ => dn - (intOf i).toNat)
   case atStart => exact HI.out
   case round =>
    clear HI
    obtain ⟨k, t, rfl, hk, rfl, ht, bw⟩ := hrel
    by_cases hlt : k < dn
    ·obtain ⟨D1, c, T1, eL, hD1⟩ := split1 cs k (by have := HL5.out; omega)
     have hcm : c ∈ cs := by rw [eL]; simp
     have hrow := HIN.out.1
     rw [eL] at hrow
     obtain ⟨g, off, rfl, d0, d1, d2, d3, d4⟩ := hrow.change
     rw [hD1] at d0 d1 d2 d3 d4
     have hin := HIN.out.2 c hcm
     obtain ⟨la, lc, elv⟩ := hin.1.form
     rw [elv] at d4 hin
     have hDk : D[k]? = some c.plain := by rw [← HP5.out, eL, List.getElem?_map, List.getElem?_append_right (by omega), hD1, Nat.sub_self]; rfl
     have hcok := HOK.out c.plain (List.mem_of_getElem? hDk)
     have hcs := HS5.out c hcm
     have HTK := hid_in (show (D.take (k + 1)).flatMap (fun c => tellC c ++ [10]) = t.data.toList ++ tellC c.plain ++ [10] from by
      obtain ⟨hkD, e⟩ := List.getElem?_eq_some_iff.1 hDk
      rw [List.take_succ_eq_append_getElem hkD, List.flatMap_append, List.flatMap_singleton, e, ht, List.append_assoc])
     have hts : t.size ≤ 300000000 := by rw [← size_toList, ht]; exact HRL.out k
     obtain ⟨q, hq⟩ : ∃ q : Nat, c.what = (q : Int) := ⟨c.what.toNat, by have h1 : 1 ≤ c.what := hcok.1.1; omega⟩
     have hq1 : 1 ≤ q := by have h1 : 1 ≤ c.what := hcok.1.1; omega
     have hq4 : q ≤ 4 := by have h1 : c.what ≤ 4 := hcok.1.2; omega
     have hks : c.kind.size ≤ 200 := by have := hcok.2.1; rw [size_toList] at this; exact this
     have hns : c.name.size ≤ 200 := by have := hcok.2.2.1; rw [size_toList] at this; exact this
     have hys : c.key.size ≤ 200 := by have := hcok.2.2.2.1; rw [size_toList] at this; exact this
     have HSEP := hid_in (show tellC c.plain = frontC c.plain ++ noC c.plain ++ sepL (c.ls.map LAt.plain) from rfl)
     have HLEN := hid_in (show ∀ j, (sepL ((c.ls.map LAt.plain).take j)).length ≤ 2102 * 120 from fun j => by
      have h1 : (c.ls.map LAt.plain).length ≤ 120 := hcok.2.2.2.2.1
      have h2 := sepL_le (ls := (c.ls.map LAt.plain).take j) (fun a ha => hcok.2.2.2.2.2 a (List.mem_of_mem_take ha))
      have h3 : ((c.ls.map LAt.plain).take j).length ≤ 120 := by rw [List.length_take]; omega
      have h4 : 2102 * ((c.ls.map LAt.plain).take j).length ≤ 2102 * 120 := Nat.mul_le_mul_left _ h3
      omega)
     have HLL := hid_in (show ∀ a ∈ c.ls, (lineL a.plain).length ≤ 2100 from fun a ha => hcok.2.2.2.2.2 a.plain (List.mem_map_of_mem ha))
     obtain ⟨what, ck, cn, cy, cv, cl⟩ := c
     simp only at d0 d1 d2 d3 d4 hq hks hns hys hin hcs HSEP HLEN HLL
     subst hq
     have HFR := hid_in (show frontC (CAt.plain ⟨(q : Int), ck, cn, cy, cv, cl⟩) = signC (q : Int) ++ 32 :: ck.data.toList ++ 32 :: cn.data.toList from rfl)
     have HNO := hid_in (show noC (CAt.plain ⟨(q : Int), ck, cn, cy, cv, cl⟩) = if (q : Int) = 4 then [58, 32, 110, 111, 32] ++ cy.data.toList else [] from rfl)
     have lg := World.block_lt_of_cell? w5 _ d0
     have e0 := (bw.cell (p := ⟨g, off + k * 5, none⟩) lg).trans d0
     have e1 := (bw.cell (p := ⟨g, off + k * 5 + 1, none⟩) lg).trans d1
     have e2 := (bw.cell (p := ⟨g, off + k * 5 + 2, none⟩) lg).trans d2
     have e3 := (bw.cell (p := ⟨g, off + k * 5 + 3, none⟩) lg).trans d3
     have e4 := (bw.cell (p := ⟨g, off + k * 5 + 4, none⟩) lg).trans d4
     have k1 : (0 : Int) ≤ (k : Int) := by omega
     have k2 : (k : Int) < (dn : Int) := by omega
     have HLI := hid_in hin
     have HCS := hid_in hcs
     clear hin hcs hrow eL hD1 hcm hDk hcok d0 d1 d2 d3 d4 elv ht
     generalize tellC (CAt.plain ⟨(q : Int), ck, cn, cy, cv, cl⟩) = TC at *
     generalize frontC (CAt.plain ⟨(q : Int), ck, cn, cy, cv, cl⟩) = FC at *
     generalize noC (CAt.plain ⟨(q : Int), ck, cn, cy, cv, cl⟩) = NC at *
     generalize hnl : cl.length = nl at *
     have enl := hid_in hnl
     clear hnl
     have bR := (Below.refl wr.heap.size wr).alloc (Nat.le_refl _) (.cells #[.int .i64 (q : Int), .string ck, .string cn, .string cy, .slice la nl lc] 131)
     have zR := BlkAt.new wr #[.int .i64 (q : Int), .string ck, .string cn, .string cy, .slice la nl lc] 131
     have B6 := bw.trans (bR.mono bw.size)
     go_upto_region 13 with fail
     generalize wr.alloc (.cells #[.int .i64 (q : Int), .string ck, .string cn, .string cy, .slice la nl lc] 131) = W6 at *
     generalize wr.heap.size = G at *
     clear e0 e1 e2 e3 e4 bR
     have y0 := cell_of_block zR 0
     have y1 := cell_of_block zR 1
     have y2 := cell_of_block zR 2
     have y3 := cell_of_block zR 3
     have y4 := cell_of_block zR 4
     simp only [List.getElem?_toArray, List.getElem?_cons_zero, List.getElem?_cons_succ] at y0 y1 y2 y3 y4
     have HB6 := hid_in (show ChB G (q : Int) ck cn cy W6 from ⟨y0, y1, y2, y3⟩)
     have Bd : Below W6.heap.size W6 W6.drew := (Below.refl _ _).drew
     have bS := (Below.refl W6.drew.heap.size W6.drew).alloc (Nat.le_refl _) (.cells #[.string ⟨#[]⟩, .string ⟨#[45]⟩, .string ⟨#[43]⟩, .string ⟨#[126]⟩, .string ⟨#[126]⟩] 9)
     have zS := BlkAt.new W6.drew #[.string ⟨#[]⟩, .string ⟨#[45]⟩, .string ⟨#[43]⟩, .string ⟨#[126]⟩, .string ⟨#[126]⟩] 9
     obtain ⟨sg, hsg⟩ : ∃ sg : ByteArray, sg = ⟨(signC (q : Int)).toArray⟩ := ⟨_, rfl⟩
     have hsg' : sg.data.toList = signC (q : Int) := by rw [hsg]
     have hsgs : sg.size ≤ 1 := by
      rw [← size_toList, hsg']; unfold signC
      split
      ·exact Nat.le_refl _
      ·split <;> exact Nat.le_refl _
     have s0 := (cell_of_block zS q).trans (signA_get q hq1 hq4)
     rw [← hsg] at s0
     have HSG := hid_in hsg'
     clear hsg hsg'
     have b7 := Bd.trans (bS.mono Bd.size)
     have HB7 := hid_in (HB6.out.below b7)
     have t0 : ∀ p : { W : World // ChB G (q : Int) ck cn cy W }, p.1.cell? ⟨G, 0, none⟩ = some (.int .i64 (q : Int)) := fun p => p.2.1
     have t1 : ∀ p : { W : World // ChB G (q : Int) ck cn cy W }, p.1.cell? ⟨G, 1, none⟩ = some (.string ck) := fun p => p.2.2.1
     have t2 : ∀ p : { W : World // ChB G (q : Int) ck cn cy W }, p.1.cell? ⟨G, 2, none⟩ = some (.string cn) := fun p => p.2.2.2.1
     letI I6 : Inhabited { W : World // ChB G (q : Int) ck cn cy W } := ⟨⟨W6, HB6.out⟩⟩
     have v0 : ∀ p : { W : World // ChS G (q : Int) ck cn cy W6.heap.size q sg W }, p.1.cell? ⟨W6.heap.size, q, none⟩ = some (.string sg) := fun p => p.2.2
     letI I7 : Inhabited { W : World // ChS G (q : Int) ck cn cy W6.heap.size q sg W } := ⟨⟨_, HB7.out, s0⟩⟩
     have HSS := hid_in (show ChS G (q : Int) ck cn cy W6.heap.size q sg _ from ⟨HB7.out, s0⟩)
     have i1 : (0 : Int) ≤ (q : Int) := by omega
     have i2 : (q : Int) < 5 := by omega
     have f1 : ¬ 9223372036854775807 < t.size + sg.size := by omega
     have f2 : ¬ 9223372036854775807 < t.size + sg.size + 1 := by omega
     have f3 : ¬ 9223372036854775807 < t.size + sg.size + 1 + ck.size := by omega
     have f4 : ¬ 9223372036854775807 < t.size + sg.size + 1 + ck.size + 1 := by omega
     have f5 : ¬ 9223372036854775807 < t.size + sg.size + 1 + ck.size + 1 + cn.size := by omega
     refine wp_region_hold (S := ChB G (q : Int) ck cn cy) 15 16 (by kernel_rfl) rfl ?_
     refine wpHold_mask [true, false, true, true, false, false, false, false, true, true, false, false, true, true, false, false] 9 rfl (by kernel_rfl) (HB6.out.below Bd) ?_
     simp only [maskL_t, maskL_f, maskL_n]
     iterate 7 (refine wpReads_step (fun K hK => ?_); go_simp; refine hK _ ?_; clear hK K)
     refine wpReads_nil ?_
     clear t0 t1 t2
     refine wpHold_branch (f := 8) (rs := [1]) (by kernel_rfl) (by simp) ?_
     refine AllHold.cons rfl (by decide) (fun K hK => ?_) AllHold.nil
     go_simp
     refine hK.out _ _ HB7.out ?_
     clear hK K
     refine wpHold_imp (S' := ChS G (q : Int) ck cn cy W6.heap.size q sg) (fun u hu => hu.1) ?_
     refine wpHold_mask [false, false, false, false, true, true, true, true, false, false, true, true, false, false, true, false] 1 rfl (by kernel_rfl) HSS.out ?_
     simp only [maskL_t, maskL_f, maskL_n]
     iterate 7 (refine wpReads_step (fun K hK => ?_); go_simp; refine hK _ ?_; clear hK K)
     refine wpReads_nil ?_
     clear v0
     refine wpHold_last (by kernel_rfl) rfl (by kernel_rfl) ?_
     intro K hK
     go_simp
     refine hK.out _ _ (NoPanic.normal ?_)
     clear hK K
     have b7' : Below W6.heap.size W6 (W6.alloc (.cells #[.string ⟨#[]⟩, .string ⟨#[45]⟩, .string ⟨#[43]⟩, .string ⟨#[126]⟩, .string ⟨#[126]⟩] 9)).drew := b7
     have m0 : (W6.alloc (.cells #[.string ⟨#[]⟩, .string ⟨#[45]⟩, .string ⟨#[43]⟩, .string ⟨#[126]⟩, .string ⟨#[126]⟩] 9)).drew.cell? ⟨G, 0, none⟩ = some (.int .i64 (q : Int)) := HB7.out.1
     have m3 : (W6.alloc (.cells #[.string ⟨#[]⟩, .string ⟨#[45]⟩, .string ⟨#[43]⟩, .string ⟨#[126]⟩, .string ⟨#[126]⟩] 9)).drew.cell? ⟨G, 3, none⟩ = some (.string cy) := HB7.out.2.2.2
     have m4 := (b7'.cell (World.block_lt_of_cell? _ _ y4)).trans y4
     have B7 := B6.trans (b7'.mono B6.size)
     have HM4 := hid_in m4
     clear I6 I7 zS s0 HSS b7 b7' bS Bd y0 y1 y2 y3 y4 HB6 HB7 B6
     generalize (W6.alloc (.cells #[.string ⟨#[]⟩, .string ⟨#[45]⟩, .string ⟨#[43]⟩, .string ⟨#[126]⟩, .string ⟨#[126]⟩] 9)).drew = W7 at *
     have HT1 := hid_in (show (t ++ sg ++ ⟨#[32]⟩ ++ ck ++ ⟨#[32]⟩ ++ cn).data.toList = t.data.toList ++ FC from by rw [HFR.out, ← HSG.out]; simp)
     obtain ⟨t1, ht1⟩ : ∃ t1, t ++ sg ++ ⟨#[32]⟩ ++ ck ++ ⟨#[32]⟩ ++ cn = t1 := ⟨_, rfl⟩
     have hts1 : t1.size ≤ 300001000 := by
      have h32 : (⟨#[32]⟩ : ByteArray).size = 1 := rfl
      rw [← ht1]; simp only [ByteArray.size_append]; omega
     rw [ht1] at HT1 ⊢
     clear ht1 f1 f2 f3 f4 f5
     have HNXT := hid_in (show ∀ t2 : ByteArray, t2.data.toList = t.data.toList ++ FC ++ NC → LnRel W7 (t.data.toList ++ FC ++ NC) (cl.map LAt.plain) nl (.string t2) (.int .i64 0) W7 from fun t2 h2 => ⟨0, t2, rfl, by omega, rfl, by rw [h2]; simp [sepL], Below.refl _ _⟩)
     have HBB := hid_in B7
     have hnl6 : nl ≤ 1048576 := by have := HCS.out.1; rw [enl.out] at this; exact this
     clear B7 bw
     by_cases h4 : q = 4
     ·have e4 : ((q : Int) == 4) = true := by simp; omega
      have HT2 := hid_in (show (t1 ++ ⟨#[58, 32, 110, 111, 32]⟩ ++ cy).data.toList = t.data.toList ++ FC ++ NC from by rw [HNO.out, if_pos (by omega), ← HT1.out]; simp)
      have f1 : ¬ 9223372036854775807 < t1.size + 5 := by omega
      have f2 : ¬ 9223372036854775807 < t1.size + 5 + cy.size := by omega
      go_upto_region 16 with fail
      obtain ⟨t2, ht2⟩ : ∃ t2, t1 ++ ⟨#[58, 32, 110, 111, 32]⟩ ++ cy = t2 := ⟨_, rfl⟩
      have hts2 : t2.size ≤ 300002000 := by
       have h58 : (⟨#[58, 32, 110, 111, 32]⟩ : ByteArray).size = 5 := rfl
       rw [← ht2]; simp only [ByteArray.size_append]; omega
      rw [ht2] at HT2 ⊢
      clear ht2 f1 f2 e4
      have HI2 := hid_in (HNXT.out t2 HT2.out)
      clear HNXT HT1
      go_wp2
      go_loopw [10, 13] (fun out i wr => LnRel W7 (t.data.toList ++ FC ++ NC) (cl.map LAt.plain) nl out i wr) (fun _ i _ => nl - (intOf i).toNat)
      case atStart => exact HI2.out
      case round =>
       clear HI2
       obtain ⟨j, u, rfl, hj, rfl, hu, bu⟩ := hrel
       have m4' := (bu.cell (World.block_lt_of_cell? _ _ HM4.out)).trans HM4.out
       have hus : u.size ≤ 300260000 := by
        have h1 := congrArg List.length hu
        have h2 := congrArg List.length HT2.out
        have h3 := HLEN.out j
        rw [List.length_append, ← h2, size_toList, size_toList] at h1
        omega
       by_cases hlj : j < nl
       ·obtain ⟨D2, z, T2', eL2, hD2⟩ := split1 cl j (by have := enl.out; omega)
        have hzm : z ∈ cl := by rw [eL2]; simp
        have hin7 := (HLI.out.below HBB.out).below bu
        have hrow := hin7.1
        rw [eL2] at hrow
        obtain ⟨gl, ol, rfl, l0, l1⟩ := hrow.line
        rw [hD2] at l0 l1
        have hzi := hin7.2 z hzm
        obtain ⟨za, zc, ezv⟩ := HasRow.form hzi
        have HL4 := l4Line_any hzi (Nat.le_trans (HLL.out z hzm) (by decide)) (HCS.out.2 z hzm).1 (HCS.out.2 z hzm).2
        rw [ezv] at l1 HL4
        obtain ⟨lt, hlt'⟩ : ∃ lt : ByteArray, lt = ⟨(lineL z.plain).toArray⟩ := ⟨_, rfl⟩
        have hlt2 : lt.data.toList = lineL z.plain := by rw [hlt']
        have hlts : lt.size ≤ 2100 := by rw [← size_toList, hlt2]; exact HLL.out z hzm
        rw [← hlt'] at HL4
        have HSU := hid_in (show (t.data.toList ++ FC ++ NC) ++ sepL ((cl.map LAt.plain).take (j + 1)) = u.data.toList ++ (if j = 0 then [58, 32] else [44, 32]) ++ lt.data.toList from by
         rw [sepL_succ _ j z.plain (by rw [eL2, List.getElem?_map, List.getElem?_append_right (by omega), hD2, Nat.sub_self]; rfl), hu, hlt2]
         simp only [List.append_assoc])
        have i1 : (0 : Int) ≤ (j : Int) := by omega
        have i2 : (j : Int) < (nl : Int) := by omega
        have f1 : ¬ 9223372036854775807 < u.size + 2 := by omega
        have f2 : ¬ 9223372036854775807 < u.size + 2 + lt.size := by omega
        clear hlt' hlt2 hrow hzi hin7 eL2 hD2 hzm ezv hu
        generalize z.key = zk at *
        generalize z.ws.length = zn at *
        by_cases hj0 : j = 0
        ·have e0 : ((j : Int) == 0) = true := by simp; omega
         have HR := hid_in (show ∀ w8, Below W7.heap.size W7 w8 → LnRel W7 (t.data.toList ++ FC ++ NC) (cl.map LAt.plain) nl (.string (u ++ ⟨#[58, 32]⟩ ++ lt)) (.int .i64 ((j : Int) + 1)) w8 from fun w8 h8 => ⟨j + 1, _, by rw [Int.natCast_add]; rfl, by omega, rfl, by rw [HSU.out, if_pos hj0]; simp, h8⟩)
         clear hj0
         go_wp2_with (go_at_call 62; refine HL4.mono ?_; rintro e w8 ⟨rfl, b8⟩)
         go_roundw
         case rel => exact HR.out _ (bu.trans (b8.mono bu.size))
         case measure => simp [intOf]; omega
        ·have e0 : ((j : Int) == 0) = false := by rw [beq_eq_false_iff_ne]; omega
         have HR := hid_in (show ∀ w8, Below W7.heap.size W7 w8 → LnRel W7 (t.data.toList ++ FC ++ NC) (cl.map LAt.plain) nl (.string (u ++ ⟨#[44, 32]⟩ ++ lt)) (.int .i64 ((j : Int) + 1)) w8 from fun w8 h8 => ⟨j + 1, _, by rw [Int.natCast_add]; rfl, by omega, rfl, by rw [HSU.out, if_neg hj0]; simp, h8⟩)
         clear hj0
         go_wp2_with (go_at_call 62; refine HL4.mono ?_; rintro e w8 ⟨rfl, b8⟩)
         go_roundw
         case rel => exact HR.out _ (bu.trans (b8.mono bu.size))
         case measure => simp [intOf]; omega
       ·obtain rfl : j = nl := by omega
        have f1 : ¬ 9223372036854775807 < u.size + 1 := by omega
        have HR := hid_in (show RepRel w5 D dn (.string (u ++ ⟨#[10]⟩)) (.int .i64 ((k : Int) + 1)) wr from ⟨k + 1, _, by rw [Int.natCast_add]; rfl, by omega, rfl, by
         have e1 : (cl.map LAt.plain).take j = cl.map LAt.plain := by rw [← enl.out, ← List.length_map (f := LAt.plain), List.take_length]
         rw [HTK.out, HSEP.out, show (u ++ ⟨#[10]⟩ : ByteArray).data.toList = u.data.toList ++ [10] by simp, hu, e1]
         simp only [List.append_assoc], HBB.out.trans (bu.mono HBB.out.size)⟩)
        clear hu
        go_wp2
        go_roundw
        case rel => exact HR.out
        case measure => simp [intOf]; omega
     ·have e4 : ((q : Int) == 4) = false := by rw [beq_eq_false_iff_ne]; omega
      have HT2 := hid_in (show t1.data.toList = t.data.toList ++ FC ++ NC from by rw [HNO.out, if_neg (by omega), ← HT1.out]; simp)
      have hts2 : t1.size ≤ 300002000 := by omega
      go_upto_region 16 with fail
      clear e4
      have HI2 := hid_in (HNXT.out t1 HT2.out)
      clear HNXT HT1
      go_wp2
      go_loopw [10, 13] (fun out i wr => LnRel W7 (t.data.toList ++ FC ++ NC) (cl.map LAt.plain) nl out i wr) (fun _ i _ => nl - (intOf i).toNat)
      case atStart => exact HI2.out
      case round =>
       clear HI2
       obtain ⟨j, u, rfl, hj, rfl, hu, bu⟩ := hrel
       have m4' := (bu.cell (World.block_lt_of_cell? _ _ HM4.out)).trans HM4.out
       have hus : u.size ≤ 300260000 := by
        have h1 := congrArg List.length hu
        have h2 := congrArg List.length HT2.out
        have h3 := HLEN.out j
        rw [List.length_append, ← h2, size_toList, size_toList] at h1
        omega
       by_cases hlj : j < nl
       ·obtain ⟨D2, z, T2', eL2, hD2⟩ := split1 cl j (by have := enl.out; omega)
        have hzm : z ∈ cl := by rw [eL2]; simp
        have hin7 := (HLI.out.below HBB.out).below bu
        have hrow := hin7.1
        rw [eL2] at hrow
        obtain ⟨gl, ol, rfl, l0, l1⟩ := hrow.line
        rw [hD2] at l0 l1
        have hzi := hin7.2 z hzm
        obtain ⟨za, zc, ezv⟩ := HasRow.form hzi
        have HL4 := l4Line_any hzi (Nat.le_trans (HLL.out z hzm) (by decide)) (HCS.out.2 z hzm).1 (HCS.out.2 z hzm).2
        rw [ezv] at l1 HL4
        obtain ⟨lt, hlt'⟩ : ∃ lt : ByteArray, lt = ⟨(lineL z.plain).toArray⟩ := ⟨_, rfl⟩
        have hlt2 : lt.data.toList = lineL z.plain := by rw [hlt']
        have hlts : lt.size ≤ 2100 := by rw [← size_toList, hlt2]; exact HLL.out z hzm
        rw [← hlt'] at HL4
        have HSU := hid_in (show (t.data.toList ++ FC ++ NC) ++ sepL ((cl.map LAt.plain).take (j + 1)) = u.data.toList ++ (if j = 0 then [58, 32] else [44, 32]) ++ lt.data.toList from by
         rw [sepL_succ _ j z.plain (by rw [eL2, List.getElem?_map, List.getElem?_append_right (by omega), hD2, Nat.sub_self]; rfl), hu, hlt2]
         simp only [List.append_assoc])
        have i1 : (0 : Int) ≤ (j : Int) := by omega
        have i2 : (j : Int) < (nl : Int) := by omega
        have f1 : ¬ 9223372036854775807 < u.size + 2 := by omega
        have f2 : ¬ 9223372036854775807 < u.size + 2 + lt.size := by omega
        clear hlt' hlt2 hrow hzi hin7 eL2 hD2 hzm ezv hu
        generalize z.key = zk at *
        generalize z.ws.length = zn at *
        by_cases hj0 : j = 0
        ·have e0 : ((j : Int) == 0) = true := by simp; omega
         have HR := hid_in (show ∀ w8, Below W7.heap.size W7 w8 → LnRel W7 (t.data.toList ++ FC ++ NC) (cl.map LAt.plain) nl (.string (u ++ ⟨#[58, 32]⟩ ++ lt)) (.int .i64 ((j : Int) + 1)) w8 from fun w8 h8 => ⟨j + 1, _, by rw [Int.natCast_add]; rfl, by omega, rfl, by rw [HSU.out, if_pos hj0]; simp, h8⟩)
         clear hj0
         go_wp2_with (go_at_call 62; refine HL4.mono ?_; rintro e w8 ⟨rfl, b8⟩)
         go_roundw
         case rel => exact HR.out _ (bu.trans (b8.mono bu.size))
         case measure => simp [intOf]; omega
        ·have e0 : ((j : Int) == 0) = false := by rw [beq_eq_false_iff_ne]; omega
         have HR := hid_in (show ∀ w8, Below W7.heap.size W7 w8 → LnRel W7 (t.data.toList ++ FC ++ NC) (cl.map LAt.plain) nl (.string (u ++ ⟨#[44, 32]⟩ ++ lt)) (.int .i64 ((j : Int) + 1)) w8 from fun w8 h8 => ⟨j + 1, _, by rw [Int.natCast_add]; rfl, by omega, rfl, by rw [HSU.out, if_neg hj0]; simp, h8⟩)
         clear hj0
         go_wp2_with (go_at_call 62; refine HL4.mono ?_; rintro e w8 ⟨rfl, b8⟩)
         go_roundw
         case rel => exact HR.out _ (bu.trans (b8.mono bu.size))
         case measure => simp [intOf]; omega
       ·obtain rfl : j = nl := by omega
        have f1 : ¬ 9223372036854775807 < u.size + 1 := by omega
        have HR := hid_in (show RepRel w5 D dn (.string (u ++ ⟨#[10]⟩)) (.int .i64 ((k : Int) + 1)) wr from ⟨k + 1, _, by rw [Int.natCast_add]; rfl, by omega, rfl, by
         have e1 : (cl.map LAt.plain).take j = cl.map LAt.plain := by rw [← enl.out, ← List.length_map (f := LAt.plain), List.take_length]
         rw [HTK.out, HSEP.out, show (u ++ ⟨#[10]⟩ : ByteArray).data.toList = u.data.toList ++ [10] by simp, hu, e1]
         simp only [List.append_assoc], HBB.out.trans (bu.mono HBB.out.size)⟩)
        clear hu
        go_wp2
        go_roundw
        case rel => exact HR.out
        case measure => simp [intOf]; omega
    ·obtain rfl : k = dn := by omega
     have hDD : D.take k = D := by rw [← HP5.out, ← HL5.out, ← List.length_map (f := CAt.plain), List.take_length]
     rw [hDD] at ht
     have BW := B5.out.trans (bw.mono B5.out.size)
     by_cases hD0 : D = []
     ·have ht0 : t = ⟨#[]⟩ := by
       have : t.data.toList = [] := by rw [ht, hD0]; rfl
       exact ba_of this
      have HO := hid_in (show TextIs RS w (.returned (.string ⟨#[116, 104, 101, 32, 115, 97, 109, 101, 10]⟩)) wr from ⟨_, rfl, by rw [HREP.out, if_pos hD0]; rfl, BW⟩)
      subst ht0
      clear ht BW
      go_wp2
      go_ret
      exact HO.out
     ·have HO := hid_in (show TextIs RS w (.returned (.string t)) wr from ⟨_, rfl, by rw [HREP.out, if_neg hD0]; exact ht, BW⟩)
      have hte : (t.toList == []) = false := by
       rw [beq_eq_false_iff_ne]
       intro e
       have e2 : t.data.toList = [] := by rw [← ByteArray.toList_eq]; exact e
       rw [ht] at e2
       cases hh : D with
       | nil => exact hD0 hh
       | cons c D' =>
        rw [hh] at e2
        simp at e2
      clear ht BW
      go_wp2
      go_ret
      exact HO.out
end Go.Proofs.YtpdahhnjhggocabGreatDoor
namespace Go.Proofs.YtpdahhnjhggocabGreatDoor
open Go.RowKit
def TcRel (B : Nat) (base : List UInt8) (ls : List PLine) (n : Nat) (W0 : World) (ah i : Value) (wr : World) : Prop := ∃ j : Nat, i = .int .i64 (j : Int) ∧ j ≤ n ∧ ah = .string (if j = 0 then ⟨#[58, 32]⟩ else ⟨#[44, 32]⟩) ∧ Wrote B B (base ++ sepL (ls.take j)) W0 wr
set_option maxHeartbeats 8000000 in
set_option maxRecDepth 100000 in
theorem tellChange_any {c : CAt} {w : World} (hin : LinesIn w c.v c.ls) (hcok : ChOk c.plain) (hcs : LinesSmall c.ls) : Calls Tryz.prog 169 #[.agg #[.int .i64 c.what, .string c.kind, .string c.name, .string c.key, c.v]] w fun e w' => TextIs (tellC c.plain) w e w' := by
 have HLEN := hid_in (show ∀ j, (sepL ((c.ls.map LAt.plain).take j)).length ≤ 2102 * 120 from fun j => by
  have h1 : (c.ls.map LAt.plain).length ≤ 120 := hcok.2.2.2.2.1
  have h2 := sepL_le (ls := (c.ls.map LAt.plain).take j) (fun a ha => hcok.2.2.2.2.2 a (List.mem_of_mem_take ha))
  have h3 : ((c.ls.map LAt.plain).take j).length ≤ 120 := by rw [List.length_take]; omega
  have h4 : 2102 * ((c.ls.map LAt.plain).take j).length ≤ 2102 * 120 := Nat.mul_le_mul_left _ h3
  omega)
 have HLL := hid_in (show ∀ a ∈ c.ls, (lineL a.plain).length ≤ 2100 from fun a ha => hcok.2.2.2.2.2 a.plain (List.mem_map_of_mem ha))
 have HSEP := hid_in (show tellC c.plain = frontC c.plain ++ noC c.plain ++ sepL (c.ls.map LAt.plain) from rfl)
 have hfl := frontC_le hcok
 have hks : c.kind.size ≤ 200 := by have := hcok.2.1; rw [size_toList] at this; exact this
 have hns : c.name.size ≤ 200 := by have := hcok.2.2.1; rw [size_toList] at this; exact this
 have hys : c.key.size ≤ 200 := by have := hcok.2.2.2.1; rw [size_toList] at this; exact this
 have HNE := hid_in (tellC_ne c.plain)
 obtain ⟨what, ck, cn, cy, cv, cl⟩ := c
 have hin : LinesIn w cv cl := hin
 obtain ⟨la, lc, rfl⟩ := hin.1.form
 have HFR := hid_in (show frontC (CAt.plain ⟨what, ck, cn, cy, .slice la cl.length lc, cl⟩) = signC what ++ 32 :: ck.data.toList ++ 32 :: cn.data.toList from rfl)
 have HNO := hid_in (show noC (CAt.plain ⟨what, ck, cn, cy, .slice la cl.length lc, cl⟩) = if what = 4 then [58, 32, 110, 111, 32] ++ cy.data.toList else [] from rfl)
 simp only at hks hns hys hin hcs HLEN HLL HSEP
 have HCS := hid_in hcs
 have hnl6 := hcs.1
 have b1 := (Below.refl w.heap.size w).alloc (Nat.le_refl _) (.cells #[.int .i64 what, .string ck, .string cn, .string cy, .slice la cl.length lc] 131)
 have z1 := BlkAt.new w #[.int .i64 what, .string ck, .string cn, .string cy, .slice la cl.length lc] 131
 have HX := hid_in (hin.below b1)
 clear hin hcs hcok
 generalize tellC (CAt.plain ⟨what, ck, cn, cy, .slice la cl.length lc, cl⟩) = TC at *
 generalize frontC (CAt.plain ⟨what, ck, cn, cy, .slice la cl.length lc, cl⟩) = FC at *
 generalize noC (CAt.plain ⟨what, ck, cn, cy, .slice la cl.length lc, cl⟩) = NC at *
 generalize hnl : cl.length = nl at *
 have enl := hid_in hnl
 clear hnl
 generalize hw1 : w.alloc (.cells #[.int .i64 what, .string ck, .string cn, .string cy, .slice la nl lc] 131) = w1 at *
 have EW := hid_in hw1
 clear hw1
 have y0 := cell_of_block z1 0
 have y1 := cell_of_block z1 1
 have y2 := cell_of_block z1 2
 have y3 := cell_of_block z1 3
 have y4 := cell_of_block z1 4
 simp only [List.getElem?_toArray, List.getElem?_cons_zero, List.getElem?_cons_succ] at y0 y1 y2 y3 y4
 have HC := hid_in (show ∀ W, Below w1.heap.size w1 W → (W.cell? ⟨w.heap.size, 0, none⟩ = some (.int .i64 what) ∧ W.cell? ⟨w.heap.size, 3, none⟩ = some (.string cy) ∧ W.cell? ⟨w.heap.size, 4, none⟩ = some (.slice la nl lc)) from fun W hW => ⟨(hW.cell (World.block_lt_of_cell? _ _ y0)).trans y0, (hW.cell (World.block_lt_of_cell? _ _ y3)).trans y3, (hW.cell (World.block_lt_of_cell? _ _ y4)).trans y4⟩)
 have T0 := txt_start w1
 have b2 : Below w1.heap.size w1 (w1.alloc (.cells #[.pointer none, .slice none 0 0] 100)) := (Below.refl _ _).alloc (Nat.le_refl _) _
 have d0 := (b2.cell (World.block_lt_of_cell? _ _ y0)).trans y0
 have d1 := (b2.cell (World.block_lt_of_cell? _ _ y1)).trans y1
 have d2 := (b2.cell (World.block_lt_of_cell? _ _ y2)).trans y2
 clear y0 y1 y2 y3 y4 z1
 obtain ⟨sg, hsg⟩ : ∃ sg : ByteArray, sg = ⟨(signC what).toArray⟩ := ⟨_, rfl⟩
 have HCM := fun W => changeMark_any what W
 simp only [← hsg] at HCM
 have hsg' : sg.data.toList = signC what := by rw [hsg]
 have hsgs : sg.size ≤ 1 := by
  rw [← size_toList, hsg']; unfold signC
  split
  ·exact Nat.le_refl _
  ·split <;> exact Nat.le_refl _
 have HSG := hid_in hsg'
 clear hsg hsg'
 have f1 : ¬ 9223372036854775807 < sg.size + 1 := by omega
 have f2 : ¬ 9223372036854775807 < sg.size + 1 + ck.size := by omega
 have f3 : ¬ 9223372036854775807 < sg.size + 1 + ck.size + 1 := by omega
 have f4 : ¬ 9223372036854775807 < sg.size + 1 + ck.size + 1 + cn.size := by omega
 go_enter Tryz.func169, Tryz.ntmps169
 go_upto_region 1 with fail
 rw [EW.out]
 clear EW
 go_upto_region 2 with fail
 have hz2 : (w1.alloc (.cells #[.pointer none, .slice none 0 0] 100)).heap.size = w1.heap.size + 1 := by simp
 generalize hw2 : w1.alloc (.cells #[.pointer none, .slice none 0 0] 100) = w2 at *
 clear hw2
 have k0 := fun p : Gr w2 => gr_cell d0 p
 have k1 := fun p : Gr w2 => gr_cell d1 p
 have k2 := fun p : Gr w2 => gr_cell d2 p
 refine wp_region_last 12 (by kernel_rfl) rfl rfl (by kernel_rfl) ?_
 simp only [List.take_succ_cons, List.take_zero]
 iterate 3 quiet_step (fail)
 quiet_step ((go_at_call 226; refine gr_of (HCM _)))
 iterate 8 quiet_step (fail)
 refine wpQuiet_nil ?_
 intro p K hK
 go_simp
 have hhd : (sg ++ ⟨#[32]⟩ ++ ck ++ ⟨#[32]⟩ ++ cn : ByteArray).data.toList = FC := by rw [HFR.out, ← HSG.out]; simp
 generalize (sg ++ ⟨#[32]⟩ ++ ck ++ ⟨#[32]⟩ ++ cn : ByteArray) = hd at *
 have hBw : w1.heap.size ≤ w2.heap.size := by omega
 refine (txtString_any _ (T0.gr p.h) (by rw [hhd]; show 0 + _ ≤ _; omega) (Nat.le_trans hBw p.h.size)).mono ?_
 rintro e w3 ⟨rfl, W3⟩
 refine hK _ _ ?_
 rw [hhd, List.nil_append] at W3
 have WA := Wrote.gr hBw p.h W3
 have c0 := (HC.out w3 (b2.trans (WA.2.1))).1
 clear hK K k0 k1 k2 W3 f1 f2 f3 f4 hhd d0 d1 d2 HCM
 have HW := hid_in (show ∀ W, Wrote w1.heap.size w1.heap.size (FC ++ NC) w2 W → TcRel w1.heap.size (FC ++ NC) (cl.map LAt.plain) nl w2 (.string ⟨#[58, 32]⟩) (.int .i64 0) W from fun W h => ⟨0, rfl, by omega, rfl, by simpa [sepL] using h⟩)
 have hfl1 := hfl.1
 have hfl2 := hfl.2
 clear hfl
 by_cases h4 : what = 4
 ·have e4 : (what == 4) = true := by simp [h4]
  have c3 := (HC.out w3 (b2.trans (WA.2.1))).2.1
  have f1 : ¬ 9223372036854775807 < 5 + cy.size := by omega
  have hnd : (⟨#[58, 32, 110, 111, 32]⟩ ++ cy : ByteArray).data.toList = NC := by rw [HNO.out, if_pos h4]; simp
  have HT := txtString_any (⟨#[58, 32, 110, 111, 32]⟩ ++ cy) WA.1 (by rw [hnd]; omega) (Nat.le_trans hBw WA.2.1.size)
  rw [hnd] at HT
  clear hnd h4
  go_wp2_with (go_at_call 101; refine HT.mono ?_)
  first | rintro e w4 rfl W4 | rintro e w4 ⟨rfl, W4⟩
  have WB := WA.trans W4
  clear HT W4 WA c0 c3 e4
  have HI := hid_in (HW.out _ WB)
  have c4 := (HC.out _ (b2.trans (WB.2.1))).2.2
  clear HW WB
  go_wp2
  go_loopw [4, 31] (fun ah i wr => TcRel w1.heap.size (FC ++ NC) (cl.map LAt.plain) nl w2 ah i wr) (fun _ i _ => nl - (intOf i).toNat)
  case atStart => exact HI.out
  case round =>
   clear HI c4
   obtain ⟨j, rfl, hj, rfl, WJ⟩ := hrel
   have hBr : w1.heap.size ≤ wr.heap.size := Nat.le_trans hBw WJ.2.1.size
   have hlen := HLEN.out j
   by_cases hlj : j < nl
   ·obtain ⟨D2, z, T2, eL2, hD2⟩ := split1 cl j (by have := enl.out; omega)
    have hzm : z ∈ cl := by rw [eL2]; simp
    have hrow := HX.out.1
    rw [eL2] at hrow
    obtain ⟨gl, ol, rfl, l0, l1⟩ := hrow.line
    rw [hD2] at l0 l1
    have hbr := b2.trans WJ.2.1
    have l0' := (hbr.cell (World.block_lt_of_cell? w1 _ l0)).trans l0
    have l1' := (hbr.cell (World.block_lt_of_cell? w1 _ l1)).trans l1
    obtain ⟨za, zc, ezv⟩ := HasRow.form (HX.out.2 z hzm)
    have hzs := HCS.out.2 z hzm
    have hzl := HLL.out z hzm
    have HLine := fun (W : World) (t : List UInt8) (hbW : Below w1.heap.size w1 W) (hT : Txt w1.heap.size w1.heap.size t W) ht => writeLine_any rfl (HX.out.2 z hzm) hbW hT ht hzs.1 hzs.2
    rw [ezv] at HLine l1'
    have HL := hid_in HLine
    have HSU := hid_in (sepL_succ (cl.map LAt.plain) j z.plain (by rw [eL2, List.getElem?_map, List.getElem?_append_right (by omega), hD2, Nat.sub_self]; rfl))
    clear hrow eL2 hD2 hzm ezv l0 l1 hzs HLine
    generalize lineL z.plain = LZ at *
    generalize z.key = zk at *
    generalize z.ws.length = zn at *
    have ga : Below wr.heap.size wr (wr.alloc (.cells #[.string zk, .slice za zn zc] 82)) := (Below.refl wr.heap.size wr).alloc (Nat.le_refl _) _
    have hbl : (wr.alloc (.cells #[.string zk, .slice za zn zc] 82)).heap[wr.heap.size]? = some (.cells #[.string zk, .slice za zn zc] 82) := by unfold World.alloc; simp
    have hbq' := WJ.1.lt
    have hne : some wr.heap.size ≠ some w1.heap.size := by intro e; have := Option.some.inj e; omega
    have hno : ∀ c fz, (Obj.cells #[.string zk, .slice za zn zc] 82) ≠ .cells c 5 fz := by intro c fz e; cases e
    have i1 : (0 : Int) ≤ (j : Int) := by omega
    have i2 : (j : Int) < (nl : Int) := by omega
    obtain ⟨ah, hah⟩ : ∃ ah : ByteArray, ah = (if j = 0 then ⟨#[58, 32]⟩ else ⟨#[44, 32]⟩) := ⟨_, rfl⟩
    have hah' : ah.data.toList = if j = 0 then [58, 32] else [44, 32] := by rw [hah]; split <;> rfl
    have hahs : ah.data.toList.length ≤ 2 := by rw [hah']; split <;> exact Nat.le_refl _
    rw [← hah]
    have HAH := hid_in hah'
    clear hah hah'
    obtain ⟨v1, t1, ht1, H1⟩ := txtString_to ah (WJ.1.gr ga) (by rw [List.length_append, List.length_append]; omega) (Nat.le_trans hBr ga.size)
    go_wp2_with (go_at_call 101; refine H1.mono ?_)
    first | rintro e w5 rfl W5 | rintro e w5 ⟨rfl, W5⟩
    have hq3 := W5.2.2 _ _ hbl hne hno
    have d3 : w5.cell? ⟨wr.heap.size, 0, none⟩ = some (.string zk) := by rw [Lib.cell_of_heap hq3]; rfl
    have d4 : w5.cell? ⟨wr.heap.size, 1, none⟩ = some (.slice za zn zc) := by rw [Lib.cell_of_heap hq3]; rfl
    have W5' := WJ.trans (Wrote.gr hBr ga W5)
    have H2 := HL.out w5 _ (b2.trans W5'.2.1) W5.1 (by rw [ht1.out, List.length_append, List.length_append, List.length_append]; omega)
    clear H1 hbl hne hno hq3 W5 ga hbq'
    go_wp2_with (go_at_call 133; refine H2.mono ?_)
    first | rintro e w6 rfl W6 | rintro e w6 ⟨rfl, W6⟩
    have HR := hid_in (show TcRel w1.heap.size (FC ++ NC) (cl.map LAt.plain) nl w2 (.string ⟨#[44, 32]⟩) (.int .i64 ((j : Int) + 1)) w6 from ⟨j + 1, by rw [Int.natCast_add]; rfl, by omega, by rw [if_neg (by omega)], by
     have h6 := W5'.trans W6
     rw [ht1.out, HAH.out] at h6
     rw [HSU.out]
     simpa only [List.append_assoc] using h6⟩)
    clear H2 W6 W5'
    go_wp2
    go_roundw
    case rel => exact HR.out
    case measure => simp [intOf]; omega
   ·obtain ⟨ah, hah⟩ : ∃ ah : ByteArray, ah = (if j = 0 then ⟨#[58, 32]⟩ else ⟨#[44, 32]⟩) := ⟨_, rfl⟩
    rw [← hah]
    clear hah
    obtain rfl : j = nl := by omega
    have e1 : (cl.map LAt.plain).take j = cl.map LAt.plain := by rw [← enl.out, ← List.length_map (f := LAt.plain), List.take_length]
    rw [e1, ← HSEP.out] at WJ
    have H1 := txtText_any WJ.1 HNE.out
    have WJ' := hid_in WJ
    clear WJ e1
    go_wp2_with (go_at_call 67; refine H1.mono ?_)
    first | rintro e w5 rfl W5 | rintro e w5 ⟨rfl, W5⟩
    have HB := hid_in (b1.trans (((b2.trans WJ'.out.2.1).trans W5.2.1).mono b1.size))
    clear H1 W5
    go_wp2
    go_ret
    exact ⟨_, rfl, rfl, HB.out⟩
 ·have e4 : (what == 4) = false := by simpa using h4
  have WB : Wrote w1.heap.size w1.heap.size (FC ++ NC) w2 w3 := by
   have e : NC = [] := by rw [HNO.out, if_neg h4]
   rw [e, List.append_nil]; exact WA
  clear h4 WA
  go_upto_region 5 with fail
  clear e4 c0
  have HI := hid_in (HW.out _ WB)
  have c4 := (HC.out _ (b2.trans (WB.2.1))).2.2
  clear HW WB
  go_wp2
  go_loopw [4, 31] (fun ah i wr => TcRel w1.heap.size (FC ++ NC) (cl.map LAt.plain) nl w2 ah i wr) (fun _ i _ => nl - (intOf i).toNat)
  case atStart => exact HI.out
  case round =>
   clear HI c4
   obtain ⟨j, rfl, hj, rfl, WJ⟩ := hrel
   have hBr : w1.heap.size ≤ wr.heap.size := Nat.le_trans hBw WJ.2.1.size
   have hlen := HLEN.out j
   by_cases hlj : j < nl
   ·obtain ⟨D2, z, T2, eL2, hD2⟩ := split1 cl j (by have := enl.out; omega)
    have hzm : z ∈ cl := by rw [eL2]; simp
    have hrow := HX.out.1
    rw [eL2] at hrow
    obtain ⟨gl, ol, rfl, l0, l1⟩ := hrow.line
    rw [hD2] at l0 l1
    have hbr := b2.trans WJ.2.1
    have l0' := (hbr.cell (World.block_lt_of_cell? w1 _ l0)).trans l0
    have l1' := (hbr.cell (World.block_lt_of_cell? w1 _ l1)).trans l1
    obtain ⟨za, zc, ezv⟩ := HasRow.form (HX.out.2 z hzm)
    have hzs := HCS.out.2 z hzm
    have hzl := HLL.out z hzm
    have HLine := fun (W : World) (t : List UInt8) (hbW : Below w1.heap.size w1 W) (hT : Txt w1.heap.size w1.heap.size t W) ht => writeLine_any rfl (HX.out.2 z hzm) hbW hT ht hzs.1 hzs.2
    rw [ezv] at HLine l1'
    have HL := hid_in HLine
    have HSU := hid_in (sepL_succ (cl.map LAt.plain) j z.plain (by rw [eL2, List.getElem?_map, List.getElem?_append_right (by omega), hD2, Nat.sub_self]; rfl))
    clear hrow eL2 hD2 hzm ezv l0 l1 hzs HLine
    generalize lineL z.plain = LZ at *
    generalize z.key = zk at *
    generalize z.ws.length = zn at *
    have ga : Below wr.heap.size wr (wr.alloc (.cells #[.string zk, .slice za zn zc] 82)) := (Below.refl wr.heap.size wr).alloc (Nat.le_refl _) _
    have hbl : (wr.alloc (.cells #[.string zk, .slice za zn zc] 82)).heap[wr.heap.size]? = some (.cells #[.string zk, .slice za zn zc] 82) := by unfold World.alloc; simp
    have hbq' := WJ.1.lt
    have hne : some wr.heap.size ≠ some w1.heap.size := by intro e; have := Option.some.inj e; omega
    have hno : ∀ c fz, (Obj.cells #[.string zk, .slice za zn zc] 82) ≠ .cells c 5 fz := by intro c fz e; cases e
    have i1 : (0 : Int) ≤ (j : Int) := by omega
    have i2 : (j : Int) < (nl : Int) := by omega
    obtain ⟨ah, hah⟩ : ∃ ah : ByteArray, ah = (if j = 0 then ⟨#[58, 32]⟩ else ⟨#[44, 32]⟩) := ⟨_, rfl⟩
    have hah' : ah.data.toList = if j = 0 then [58, 32] else [44, 32] := by rw [hah]; split <;> rfl
    have hahs : ah.data.toList.length ≤ 2 := by rw [hah']; split <;> exact Nat.le_refl _
    rw [← hah]
    have HAH := hid_in hah'
    clear hah hah'
    obtain ⟨v1, t1, ht1, H1⟩ := txtString_to ah (WJ.1.gr ga) (by rw [List.length_append, List.length_append]; omega) (Nat.le_trans hBr ga.size)
    go_wp2_with (go_at_call 101; refine H1.mono ?_)
    first | rintro e w5 rfl W5 | rintro e w5 ⟨rfl, W5⟩
    have hq3 := W5.2.2 _ _ hbl hne hno
    have d3 : w5.cell? ⟨wr.heap.size, 0, none⟩ = some (.string zk) := by rw [Lib.cell_of_heap hq3]; rfl
    have d4 : w5.cell? ⟨wr.heap.size, 1, none⟩ = some (.slice za zn zc) := by rw [Lib.cell_of_heap hq3]; rfl
    have W5' := WJ.trans (Wrote.gr hBr ga W5)
    have H2 := HL.out w5 _ (b2.trans W5'.2.1) W5.1 (by rw [ht1.out, List.length_append, List.length_append, List.length_append]; omega)
    clear H1 hbl hne hno hq3 W5 ga hbq'
    go_wp2_with (go_at_call 133; refine H2.mono ?_)
    first | rintro e w6 rfl W6 | rintro e w6 ⟨rfl, W6⟩
    have HR := hid_in (show TcRel w1.heap.size (FC ++ NC) (cl.map LAt.plain) nl w2 (.string ⟨#[44, 32]⟩) (.int .i64 ((j : Int) + 1)) w6 from ⟨j + 1, by rw [Int.natCast_add]; rfl, by omega, by rw [if_neg (by omega)], by
     have h6 := W5'.trans W6
     rw [ht1.out, HAH.out] at h6
     rw [HSU.out]
     simpa only [List.append_assoc] using h6⟩)
    clear H2 W6 W5'
    go_wp2
    go_roundw
    case rel => exact HR.out
    case measure => simp [intOf]; omega
   ·obtain ⟨ah, hah⟩ : ∃ ah : ByteArray, ah = (if j = 0 then ⟨#[58, 32]⟩ else ⟨#[44, 32]⟩) := ⟨_, rfl⟩
    rw [← hah]
    clear hah
    obtain rfl : j = nl := by omega
    have e1 : (cl.map LAt.plain).take j = cl.map LAt.plain := by rw [← enl.out, ← List.length_map (f := LAt.plain), List.take_length]
    rw [e1, ← HSEP.out] at WJ
    have H1 := txtText_any WJ.1 HNE.out
    have WJ' := hid_in WJ
    clear WJ e1
    go_wp2_with (go_at_call 67; refine H1.mono ?_)
    first | rintro e w5 rfl W5 | rintro e w5 ⟨rfl, W5⟩
    have HB := hid_in (b1.trans (((b2.trans WJ'.out.2.1).trans W5.2.1).mono b1.size))
    clear H1 W5
    go_wp2
    go_ret
    exact ⟨_, rfl, rfl, HB.out⟩
end Go.Proofs.YtpdahhnjhggocabGreatDoor
