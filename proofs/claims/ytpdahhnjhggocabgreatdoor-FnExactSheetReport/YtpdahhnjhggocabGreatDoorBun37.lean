import Derived.Test.YtpdahhnjhggocabGreatDoorBun33
import Derived.Test.YtpdahhnjhggocabGreatDoorBun26
import Derived.Test.YtpdahhnjhggocabGreatDoorBun25
import Derived.Test.YtpdahhnjhggocabGreatDoorBun24
import Derived.Test.YtpdahhnjhggocabGreatDoorBun20
import Derived.Test.YtpdahhnjhggocabGreatDoorBun13
import Derived.Test.YtpdahhnjhggocabGreatDoorBun12
namespace Go.Proofs.YtpdahhnjhggocabGreatDoor
open Go.RowKit
theorem flat_le {α : Type} (f : α → List UInt8) (c : Nat) : ∀ (l : List α), (∀ x ∈ l, (f x).length ≤ c) → (l.flatMap f).length ≤ l.length * c
 | [], _ => by simp
 | a :: l, h => by
  have h1 := h a (by simp)
  have h2 := flat_le f c l (fun x hx => h x (by simp [hx]))
  rw [List.flatMap_cons, List.length_append, List.length_cons, Nat.succ_mul]
  omega
theorem wordL_le (l : List UInt8) : (wordL l).length ≤ 3 * l.length + 2 := by
 unfold wordL
 split
 ·omega
 ·have := flat_le qb 3 l (fun c _ => qb_len c)
  simp only [quoteL, List.length_append, List.length_cons, List.length_nil]
  omega
theorem lineL_le {kind : ByteArray} {a : PLine} (h : fitsIn (rulesOf kind) a.key a.ws = true) : (lineL a).length ≤ 2100 := by
 obtain ⟨_, h2, _, h4, h5⟩ := fits_line h
 unfold lineL
 have := flat_le (fun w => 32 :: wordL w) 603 a.ws (fun w hw => by have := wordL_le w; have := h5 w hw; rw [List.length_cons]; omega)
 rw [List.length_append]
 have h6 : a.ws.length * 603 ≤ 3 * 603 := Nat.mul_le_mul_right _ h4
 omega
end Go.Proofs.YtpdahhnjhggocabGreatDoor
namespace Go.Proofs.YtpdahhnjhggocabGreatDoor
open Go.Lib (decDigits)
def signC (what : Int) : List UInt8 := if what = 1 then [45] else if what = 2 then [43] else [126]
def sepL : List PLine → List UInt8
 | [] => []
 | a :: ls => 58 :: 32 :: lineL a ++ ls.flatMap (fun b => 44 :: 32 :: lineL b)
def frontC (c : PChange) : List UInt8 := signC c.what ++ 32 :: c.kind.data.toList ++ 32 :: c.name.data.toList
def noC (c : PChange) : List UInt8 := if c.what = 4 then [58, 32, 110, 111, 32] ++ c.key.data.toList else []
def tellC (c : PChange) : List UInt8 := frontC c ++ noC c ++ sepL c.lines
theorem sepL_succ (ls : List PLine) (k : Nat) (a : PLine) (h : ls[k]? = some a) : sepL (ls.take (k + 1)) = sepL (ls.take k) ++ (if k = 0 then [58, 32] else [44, 32]) ++ lineL a := by
 obtain ⟨hk, rfl⟩ := List.getElem?_eq_some_iff.1 h
 rw [List.take_succ_eq_append_getElem hk]
 cases k with
 | zero => simp [sepL]
 | succ k =>
  cases ls with
  | nil => simp at hk
  | cons b ls =>
   have hk' : k < ls.length := by simpa using hk
   rw [List.take_succ_cons, List.cons_append, if_neg (by omega)]
   show sepL (b :: (ls.take k ++ [ls[k]])) = _
   rw [show (b :: ls)[k + 1] = ls[k] from rfl]
   show 58 :: 32 :: lineL b ++ (ls.take k ++ [ls[k]]).flatMap (fun b => 44 :: 32 :: lineL b) = 58 :: 32 :: lineL b ++ (ls.take k).flatMap (fun b => 44 :: 32 :: lineL b) ++ [44, 32] ++ lineL ls[k]
   rw [List.flatMap_append, List.flatMap_singleton]
   simp only [List.append_assoc, List.cons_append, List.nil_append]
theorem sepL_le {ls : List PLine} (h : ∀ a ∈ ls, (lineL a).length ≤ 2100) : (sepL ls).length ≤ 2102 * ls.length := by
 cases ls with
 | nil => simp [sepL]
 | cons a ls =>
  have h1 := h a (by simp)
  have h2 := flat_le (fun b : PLine => 44 :: 32 :: lineL b) 2102 ls (fun b hb => by have := h b (by simp [hb]); simp; omega)
  simp only [sepL, List.cons_append, List.length_cons, List.length_append]
  omega
def ChOk (c : PChange) : Prop := (1 ≤ c.what ∧ c.what ≤ 4) ∧ c.kind.data.toList.length ≤ 200 ∧ c.name.data.toList.length ≤ 200 ∧ c.key.data.toList.length ≤ 200 ∧ c.lines.length ≤ 120 ∧ ∀ a ∈ c.lines, (lineL a).length ≤ 2100
theorem lines_le {b : PBlock} (h : LinesOk (rulesOf b.kind) b.lines) : b.lines.length ≤ 120 ∧ ∀ a ∈ b.lines, (lineL a).length ≤ 2100 := by
 have h1 := h.few
 have h2 := (rulesOf_like b.kind).1
 exact ⟨by omega, fun a ha => lineL_le (h.1 a ha)⟩
theorem diffS_ok {A B : List PBlock} {c : PChange} (h : c ∈ diffS A B) : ChOk c := by
 unfold diffS at h
 split at h
 ·rename_i hv
  have ha := sheetB_iff.1 hv.1
  have hb := sheetB_iff.1 hv.2
  rcases List.mem_append.1 h with h | h
  ·obtain ⟨x, hx, rfl⟩ := List.mem_map.1 h
   have h1 := ha.2.1 x (List.mem_filter.1 hx).1
   exact ⟨⟨show (1 : Int) ≤ 1 by decide, show (1 : Int) ≤ 4 by decide⟩, (kind_bare h1.1).2, (name_bare h1.2.1).2, by simp [goneOf], by simp [goneOf], fun a ha => by simp [goneOf] at ha⟩
  ·obtain ⟨y, hy, h⟩ := List.mem_flatMap.1 h
   have h1 := hb.2.1 y hy
   have hl := lines_le h1.2.2
   unfold diffY at h
   split at h
   ·rw [List.mem_singleton.1 h]
    exact ⟨⟨show (1 : Int) ≤ 2 by decide, show (2 : Int) ≤ 4 by decide⟩, (kind_bare h1.1).2, (name_bare h1.2.1).2, by simp [newOf], hl.1, hl.2⟩
   ·rename_i x hx
    have h2 := ha.2.1 x (List.mem_of_find?_eq_some hx)
    unfold diffB at h
    obtain ⟨p, hp, h⟩ := List.mem_flatMap.1 h
    unfold diffK at h
    split at h
    ·cases h
    ·rw [List.mem_singleton.1 h]
     have hk := (keysOk x.kind p hp).2.1
     refine ⟨by simp only; split <;> exact ⟨by decide, by decide⟩, (kind_bare h2.1).2, (name_bare h2.2.1).2, hk, Nat.le_trans (List.length_filter_le _ _) hl.1, fun a ha => hl.2 a (List.mem_filter.1 ha).1⟩
 ·cases h
theorem frontC_le {c : PChange} (h : ChOk c) : (frontC c).length ≤ 403 ∧ (noC c).length ≤ 205 := by
 obtain ⟨_, h1, h2, h3, _⟩ := h
 have hs : (signC c.what).length = 1 := by
  unfold signC
  split
  ·rfl
  ·split <;> rfl
 refine ⟨?_, ?_⟩
 ·unfold frontC
  simp only [List.length_append, List.length_cons, hs]
  omega
 ·unfold noC
  split
  ·simp only [List.length_append, List.length_cons, List.length_nil]; omega
  ·simp
theorem tellC_le {c : PChange} (h : ChOk c) : (tellC c).length ≤ 260000 := by
 have h1 := frontC_le h
 have h2 := sepL_le h.2.2.2.2.2
 have h3 := h.2.2.2.2.1
 unfold tellC
 rw [List.length_append, List.length_append]
 omega
theorem tellC_ne (c : PChange) : tellC c ≠ [] := by
 unfold tellC frontC
 simp
def faultW : List (List UInt8) := [[], [97, 32, 119, 111, 114, 100, 32, 116, 104, 97, 116, 32, 105, 115, 32, 110, 111, 110, 101], [97, 32, 108, 105, 110, 101, 32, 111, 117, 116, 115, 105, 100, 101, 32, 111, 102, 32, 98, 108, 111, 99, 107, 115], [110, 111, 32, 115, 117, 99, 104, 32, 107, 105, 110, 100], [110, 111, 32, 115, 117, 99, 104, 32, 110, 97, 109, 101], [110, 111, 32, 115, 117, 99, 104, 32, 107, 101, 121], [115, 97, 105, 100, 32, 116, 119, 105, 99, 101], [110, 111, 116, 32, 119, 104, 97, 116, 32, 116, 104, 101, 32, 107, 101, 121, 32, 116, 97, 107, 101, 115], [97, 32, 98, 108, 111, 99, 107, 32, 116, 104, 97, 116, 32, 105, 115, 32, 110, 111, 116, 32, 101, 110, 100, 101, 100], [97, 32, 98, 108, 111, 99, 107, 32, 97, 103, 97, 105, 110], [116, 111, 111, 32, 109, 97, 110, 121], [116, 111, 111, 32, 108, 111, 110, 103]]
def faultT (code : Int) : List UInt8 := faultW.getD code.toNat []
def faultL (name : List UInt8) (line : Nat) (code : Int) : List UInt8 := name ++ (if code = 11 then [] else 58 :: decDigits line) ++ [58, 32] ++ faultT code
def oldT : List UInt8 := [111, 108, 100]
def newT : List UInt8 := [110, 101, 119]
def sameT : List UInt8 := [116, 104, 101, 32, 115, 97, 109, 101]
noncomputable def reportLs (a b : List UInt8) : List (List UInt8) := match parseT a with
 | .bad n c => [faultL oldT n c]
 | .good x => match parseT b with
  | .bad n c => [faultL newT n c]
  | .good y => match diffS (fillS (normBs x)) (fillS (normBs y)) with
   | [] => [sameT]
   | D => D.map tellC
noncomputable def reportS (a b : List UInt8) : List UInt8 := (reportLs a b).flatMap (fun l => l ++ [10])
end Go.Proofs.YtpdahhnjhggocabGreatDoor
namespace Go.Proofs.YtpdahhnjhggocabGreatDoor
open Go.RowKit
theorem ba_of {t : ByteArray} {l : List UInt8} (h : t.data.toList = l) : t = ⟨l.toArray⟩ := by
 subst h; cases t; simp
set_option maxHeartbeats 4000000 in
set_option maxRecDepth 100000 in
theorem l4Line_any {x : LAt} {w : World} (hx : LineIn w x) (hl : (lineL x.plain).length ≤ 140737488355328) (hn : x.ws.length ≤ 1048576) (hs : ∀ y ∈ x.ws, y.length ≤ 1048576) : Calls Tryz.prog 62 #[.agg #[.string x.key, x.v]] w fun e w' => e = .returned (.string ⟨(lineL x.plain).toArray⟩) ∧ Below w.heap.size w w' := by
 obtain ⟨ax, cx, e1⟩ := hx.form
 rw [← lineTo_all] at hl ⊢
 have hx' : HasRow w (.slice ax x.ws.length cx) x.ws.length 1 (strs x.ws) := e1 ▸ hx
 rw [e1]
 clear hx e1
 obtain ⟨key, v, ws⟩ := x
 simp only at *
 have hle := hid_in (fun j => Nat.le_trans (lineTo_le key ws j) hl)
 have hZ := hid_in (lineTo_zero key ws)
 have hs' := hid_in hs
 generalize hws : ws.length = n at *
 have hN := hid_in hws
 have b0 : Below w.heap.size w (w.alloc (.cells #[.string key, .slice ax n cx] 82)) := (Below.refl w.heap.size w).alloc (Nat.le_refl _) (.cells #[.string key, .slice ax n cx] 82)
 have hX := hid_in (hx'.below b0)
 clear hws hx' hl hs
 have c0 := one_box (w := w) (cs := #[.string key, .slice ax n cx]) (T := 82) 0
 have c1 := one_box (w := w) (cs := #[.string key, .slice ax n cx]) (T := 82) 1
 simp only [List.getElem?_toArray, List.getElem?_cons_zero, List.getElem?_cons_succ] at c0 c1
 go_enter Tryz.func62, Tryz.ntmps62
 go_wp2
 generalize hw1 : w.alloc (.cells #[.string key, .slice ax n cx] 82) = w1 at *
 clear hw1
 go_loopw [3, 4] (fun s i wr => ∃ j : Nat, ∃ t : ByteArray, j ≤ n ∧ i = .int .i64 (j : Int) ∧ s = .string t ∧ t.data.toList = lineTo key ws j ∧ Below w1.heap.size w1 wr) (fun _ i _ => n - (intOf i).toNat)
 case atStart => exact ⟨0, key, by omega, rfl, rfl, hZ.out.symm, Below.refl _ _⟩
 case round =>
  obtain ⟨j, t, hj, rfl, rfl, ht, bj⟩ := hrel
  have d1 := (bj.cell (World.block_lt_of_cell? w1 _ c1)).trans c1
  by_cases hlt : j < n
  ·have hjl : j < ws.length := by rw [hN.out]; exact hlt
   obtain ⟨g, off, rfl, cw⟩ := hX.out.word j hjl
   have cw' : wr.cell? ⟨g, off + j, none⟩ = some (.string ⟨ws[j].toArray⟩) := (bj.cell (World.block_lt_of_cell? w1 _ cw)).trans cw
   have hsj := hs'.out ws[j] (List.getElem_mem hjl)
   have hSj := hid_in (lineTo_succ key ws j hjl)
   have hlj := hle.out (j + 1)
   rw [hSj.out, ← ht] at hlj
   generalize hy : ws[j] = y at *
   generalize hl1 : lineTo key ws (j + 1) = l1 at *
   generalize lineTo key ws j = l0 at *
   have HW := specWord_any ⟨y.toArray⟩ wr (by show y.toArray.size ≤ 1048576; simpa using hsj)
   obtain ⟨u, hu⟩ : ∃ u : ByteArray, u = ⟨(wordL y).toArray⟩ := ⟨_, rfl⟩
   have hu' : u.data.toList = wordL y := by rw [hu]
   simp only [← hu] at HW
   have hts : t.data.toList.length = t.size := by simp
   have hus : u.data.toList.length = u.size := by simp
   have hsz : t.size + 1 + u.size ≤ 140737488355328 := by
    rw [← hu'] at hlj
    simp only [List.length_append, List.length_singleton] at hlj
    omega
   have f1 : ¬ 9223372036854775807 < t.size + 1 := by omega
   have f2 : ¬ 9223372036854775807 < t.size + 1 + u.size := by omega
   have i1 : (j : Int) < (n : Int) := by omega
   have i0 : (0 : Int) ≤ (j : Int) := by omega
   have HT := hid_in (show (t ++ ⟨#[32]⟩ ++ u).data.toList = l1 by rw [hSj.out, ← ht, ← hu']; simp)
   clear hu hts hus hlj cw
   go_wp2_with (go_at_call 128; refine HW.mono ?_; rintro e w3 ⟨rfl, b3⟩)
   go_roundw
   case rel => exact ⟨j + 1, t ++ ⟨#[32]⟩ ++ u, by omega, by go_num, rfl, by rw [hl1]; exact HT.out, bj.trans (b3.mono bj.size)⟩
   case measure => simp [intOf]; omega
  ·obtain rfl : j = n := by omega
   have HT := hid_in (ba_of ht)
   clear ht
   go_wp2
   go_ret
   exact ⟨by rw [← HT.out]; rfl, b0.trans (bj.mono b0.size)⟩
end Go.Proofs.YtpdahhnjhggocabGreatDoor
namespace Go.Proofs.YtpdahhnjhggocabGreatDoor
open Go.RowKit
theorem txt_start (w0 : World) : Txt w0.heap.size w0.heap.size [] (w0.alloc (.cells #[.pointer none, .slice none 0 0] 100)) := by
 refine .inl ⟨Nat.le_refl _, .slice none 0 0, ?_, World.ownsRowF_nil _ _ _ _, ?_⟩
 ·unfold World.alloc; simp
 ·intro e; cases e
theorem txtText_any {B b : Nat} {l : List UInt8} {w : World} (h : Txt B b l w) (h0 : l ≠ []) : Calls Tryz.prog 67 #[.pointer (some ⟨b, 0, none⟩)] w fun e w' => e = .returned (.string ⟨l.toArray⟩) ∧ Wrote B b l w w' := by
 refine (bldText_any B b l w h h0).mono ?_
 rintro e w' ⟨rfl, h1, h2, h3⟩
 exact ⟨rfl, h1, h2, h3⟩
end Go.Proofs.YtpdahhnjhggocabGreatDoor
