import Derived.Test.YtpdahhnjhggocabGreatDoorBun38
import Derived.Test.YtpdahhnjhggocabGreatDoorBun34
import Derived.Test.YtpdahhnjhggocabGreatDoorBun31
import Derived.Test.YtpdahhnjhggocabGreatDoorBun30
import Derived.Test.YtpdahhnjhggocabGreatDoorBun28
import Derived.Test.YtpdahhnjhggocabGreatDoorBun27
import Derived.Test.YtpdahhnjhggocabGreatDoorBun26
import Derived.Test.YtpdahhnjhggocabGreatDoorBun24
import Derived.Test.YtpdahhnjhggocabGreatDoorBun20
import Derived.Test.YtpdahhnjhggocabGreatDoorBun19
import Derived.Test.YtpdahhnjhggocabGreatDoorBun17
import Derived.Test.YtpdahhnjhggocabGreatDoorBun16
import Derived.Test.YtpdahhnjhggocabGreatDoorBun4
namespace Go.Proofs.YtpdahhnjhggocabGreatDoor
open Go.RowKit
def RdBox (R : Nat) (rest : ByteArray) (m : Nat) (W : World) : Prop := W.heap[R]? = some (.cells #[.string rest, .int .i64 (m : Int)] 162 (0, 0))
def rdLen (R : Nat) (W : World) : Nat := match W.cell? ⟨R, 0, none⟩ with
 | some (.string s) => s.size
 | _ => 0
theorem RdBox.len {R m : Nat} {rest : ByteArray} {W : World} (h : RdBox R rest m W) : rdLen R W = rest.size := by
 have c0 := cell_of_block h 0
 simp only [List.getElem?_toArray, List.getElem?_cons_zero] at c0
 unfold rdLen; rw [c0]
theorem RdBox.line {R m m' : Nat} {rest : ByteArray} {W : World} (h : RdBox R rest m W) : RdBox R rest m' (W.setCell ⟨R, 1, none⟩ (.int .i64 (m' : Int))) := by
 unfold RdBox at *
 rw [heap_setCell_same W R 1 _ _ _ h]; rfl
theorem RdBox.rest {R m : Nat} {rest rest' : ByteArray} {W : World} (h : RdBox R rest m W) : RdBox R rest' m (W.setCell ⟨R, 0, none⟩ (.string rest')) := by
 unfold RdBox at *
 rw [heap_setCell_same W R 0 _ _ _ h]; rfl
theorem RdBox.below {R m : Nat} {rest : ByteArray} {W W' : World} (h : RdBox R rest m W) (hb : Below W.heap.size W W') : RdBox R rest m W' := (hb.block R (Array.getElem?_eq_some_iff.1 h).1).trans h
end Go.Proofs.YtpdahhnjhggocabGreatDoor
namespace Go.Proofs.YtpdahhnjhggocabGreatDoor
open Go.RowKit
end Go.Proofs.YtpdahhnjhggocabGreatDoor
namespace Go.Proofs.YtpdahhnjhggocabGreatDoor
open Go.RowKit
def headAt (bs : List PBlock) (kind name : ByteArray) : Int := match bs.findIdx? (isHead kind name) with
 | none => -1
 | some j => (j : Int)
def HeadAt (bs : List BAt) (kind name : ByteArray) (e : Ending) : Prop := e = .returned (.int .i64 (headAt (bs.map BAt.plain) kind name))
theorem head_none {bs : List BAt} {kind name : ByteArray} (h : (bs.map BAt.plain).find? (isHead kind name) = none) : HeadAt bs kind name (.returned (.int .i64 (-1))) := by
 have : (bs.map BAt.plain).findIdx? (isHead kind name) = none := by
  rw [List.findIdx?_eq_none_iff]
  intro x hx
  have := List.find?_eq_none.1 h x hx
  simpa using this
 unfold HeadAt headAt
 rw [this]
theorem head_hit {D T : List BAt} {x : BAt} {kind name : ByteArray} (h : NoHead (D.map BAt.plain ++ x.plain :: T.map BAt.plain) kind name (D.map BAt.plain).length) (hx : isHead kind name x.plain = true) : HeadAt (D ++ x :: T) kind name (.returned (.int .i64 (D.length : Int))) := by
 have hn : (D.map BAt.plain).findIdx? (isHead kind name) = none := by
  rw [List.findIdx?_eq_none_iff]
  intro y hy
  unfold NoHead at h
  rw [List.take_append_of_le_length (Nat.le_refl _), List.take_length] at h
  exact h y hy
 have : ((D ++ x :: T).map BAt.plain).findIdx? (isHead kind name) = some D.length := by
  rw [List.map_append, List.map_cons, List.findIdx?_append, hn, List.findIdx?_cons, if_pos hx]; simp
 unfold HeadAt headAt
 rw [this]
set_option maxHeartbeats 2000000 in
set_option maxRecDepth 100000 in
theorem l3Find_at {v : Value} {bs : List BAt} (kind name : ByteArray) {w : World} (h : BlocksIn w v bs) (hl : bs.length ≤ 1048576) : Calls Tryz.prog 76 #[.agg #[v], .string kind, .string name] w fun e w' => HeadAt bs kind name e ∧ Below w.heap.size w w' := by
 obtain ⟨ao, cap, rfl⟩ := h.1.form
 have G := (Below.refl w.heap.size w).alloc (Nat.le_refl _) (.cells #[.slice ao bs.length cap] 24)
 have k0 := one_box (w := w) (cs := #[.slice ao bs.length cap]) (T := 24) 0
 simp only [List.getElem?_toArray, List.getElem?_cons_zero] at k0
 have h1 := h.below G
 clear h
 generalize hn : bs.length = n at *
 have en := hid_in hn
 clear hn
 go_enter Tryz.func76, Tryz.ntmps76
 go_wp2
 go_loop [7] (fun i => ∃ j : Nat, j ≤ n ∧ i = .int .i64 (j : Int) ∧ NoHead (bs.map BAt.plain) kind name j) (fun i => n - (intOf i).toNat)
 case atStart => exact ⟨0, by omega, rfl, NoHead.zero _ _ _⟩
 case round =>
  obtain ⟨j, hj, rfl, hA⟩ := hrel
  by_cases hlt : j < n
  ·obtain ⟨D, x, T, rfl, hD⟩ := split1 bs j (by have := en.out; omega)
   obtain ⟨g, off, rfl, c1, c2, c3⟩ := h1.1.block
   have hA2 : NoHead (D.map BAt.plain ++ x.plain :: T.map BAt.plain) kind name (D.map BAt.plain).length := by rw [List.length_map, hD]; simpa using hA
   have hyes := hid_in (show isHead kind name x.plain = true → HeadAt (D ++ x :: T) kind name (.returned (.int .i64 (j : Int))) from fun hh => by rw [← hD]; exact head_hit hA2 hh)
   have hno := hid_in (show isHead kind name x.plain = false → NoHead ((D ++ x :: T).map BAt.plain) kind name (j + 1) from fun hh => by have := hA2.succ hh; rw [List.length_map, hD] at this; simpa using this)
   rw [hD] at c1 c2 c3
   have hd : isHead kind name x.plain = ((x.kind.toList == kind.toList) && (x.name.toList == name.toList)) := rfl
   rw [hd] at hyes hno
   have hB0 : (0 : Int) ≤ (j : Int) := by omega
   have hB1 : (j : Int) < (n : Int) := by omega
   clear h1 hA hA2 hd hD en
   generalize x.kind = xk at *
   generalize x.name = xn at *
   cases h1 : (xk.toList == kind.toList)
   ·have HN := hid_in (hno.out (by rw [h1]; rfl))
    clear hyes hno
    go_wp2
    go_round
    case rel => exact ⟨j + 1, by omega, by go_num, HN.out⟩
    case measure => simp [intOf]; omega
   ·cases h2 : (xn.toList == name.toList)
    ·have HN := hid_in (hno.out (by rw [h1, h2]; rfl))
     clear hyes hno
     go_wp2
     go_round
     case rel => exact ⟨j + 1, by omega, by go_num, HN.out⟩
     case measure => simp [intOf]; omega
    ·have HN := hid_in (hyes.out (by rw [h1, h2]; rfl))
     clear hyes hno
     go_wp2
     go_ret
     exact ⟨HN.out, G⟩
  ·obtain rfl : j = n := by omega
   have HN := hid_in (show HeadAt bs kind name (.returned (.int .i64 (-1))) from head_none (NoHead.none (by rw [List.length_map, en.out]; exact hA)))
   clear h1 hA
   go_wp2
   go_ret
   exact ⟨HN.out, G⟩
end Go.Proofs.YtpdahhnjhggocabGreatDoor
namespace Go.Proofs.YtpdahhnjhggocabGreatDoor
open Go.RowKit
theorem headAt_neg {bs : List PBlock} {kind name : ByteArray} : headAt bs kind name < 0 ↔ bs.find? (isHead kind name) = none := by
 unfold headAt
 cases h : bs.findIdx? (isHead kind name) with
 | none =>
  refine ⟨fun _ => ?_, fun _ => by decide⟩
  rw [List.find?_eq_none]
  intro x hx
  have := List.findIdx?_eq_none_iff.1 h x hx
  simp [this]
 | some j =>
  refine ⟨fun h2 => absurd h2 (by simp), fun h2 => ?_⟩
  obtain ⟨hj, he, _⟩ := List.findIdx?_eq_some_iff_getElem.1 h
  exact absurd he (List.find?_eq_none.1 h2 _ (List.getElem_mem hj))
theorem headAt_some {bs : List PBlock} {kind name : ByteArray} (h : ¬ headAt bs kind name < 0) : ∃ j : Nat, ∃ hj : j < bs.length, headAt bs kind name = (j : Int) ∧ bs.find? (isHead kind name) = some bs[j] := by
 unfold headAt at h ⊢
 cases he : bs.findIdx? (isHead kind name) with
 | none => rw [he] at h; exact absurd (by decide) h
 | some j =>
  obtain ⟨hj, h1, h2⟩ := List.findIdx?_eq_some_iff_getElem.1 he
  refine ⟨j, hj, rfl, ?_⟩
  rw [List.find?_eq_some_iff_getElem]
  exact ⟨h1, j, hj, rfl, fun k hk => by have := h2 k hk; simpa using this⟩
end Go.Proofs.YtpdahhnjhggocabGreatDoor
namespace Go.Proofs.YtpdahhnjhggocabGreatDoor
open Go.RowKit
end Go.Proofs.YtpdahhnjhggocabGreatDoor
namespace Go.Proofs.YtpdahhnjhggocabGreatDoor
open Go.RowKit
def cmpAt (P : List PBlock) (kind name : ByteArray) (t : Nat) : Int := match P[t]? with
 | some b => blockCmp b.kind b.name kind name
 | none => 0
def Belongs (P : List PBlock) (kind name : ByteArray) (i : Nat) : Prop := i ≤ P.length ∧ (∀ t, t < i → cmpAt P kind name t < 0) ∧ ∀ t, i ≤ t → t < P.length → ¬ cmpAt P kind name t < 0
def BsPost (P : List PBlock) (kind name : ByteArray) (w : World) (e : Ending) (w' : World) : Prop := ∃ (i : Nat) (f : Bool), e = .returned (.tuple #[.int .i64 (i : Int), .bool f]) ∧ Belongs P kind name i ∧ (f = true ↔ i < P.length ∧ cmpAt P kind name i = 0) ∧ Below w.heap.size w w'
set_option maxHeartbeats 4000000 in
set_option maxRecDepth 100000 in
theorem bsearch_any {v : Value} {bs : List BAt} (kind name : ByteArray) {w : World} (hb : BlocksIn w v bs) (hl : bs.length ≤ 1048576) (hmono : ∀ s t, s ≤ t → t < bs.length → cmpAt (bs.map BAt.plain) kind name t < 0 → cmpAt (bs.map BAt.plain) kind name s < 0) : Calls Tryz.prog 216 #[v, .agg #[.string kind, .string name, .slice none 0 0], .func (.func 56) #[] #[]] w fun e w' => BsPost (bs.map BAt.plain) kind name w e w' := by
 obtain ⟨ao, cap, rfl⟩ := hb.1.form
 have G := (Below.refl w.heap.size w).alloc (Nat.le_refl _) (.cells #[.string kind, .string name, .slice none 0 0] 64)
 have z := alloc_here w (.cells #[.string kind, .string name, .slice none 0 0] 64)
 have HB := hid_in (hb.below G)
 have HMO := hid_in hmono
 generalize hn : bs.length = n at *
 have en := hid_in hn
 clear hb hmono hn
 generalize hw1 : w.alloc (.cells #[.string kind, .string name, .slice none 0 0] 64) = w1 at *
 have ew1 := hid_in hw1
 clear hw1
 go_enter Tryz.func216, Tryz.ntmps216
 go_wp2
 rw [ew1.out]
 go_loopw [9, 10] (fun iv jv wr => ∃ (i j : Nat), iv = .int .i64 (i : Int) ∧ jv = .int .i64 (j : Int) ∧ i ≤ j ∧ j ≤ n ∧ Hid (∀ t, t < i → cmpAt (bs.map BAt.plain) kind name t < 0) ∧ Hid (∀ t, j ≤ t → t < n → ¬ cmpAt (bs.map BAt.plain) kind name t < 0) ∧ Below w1.heap.size w1 wr) (fun iv jv _ => (intOf jv - intOf iv).toNat)
 case atStart => exact ⟨0, n, rfl, rfl, by omega, by omega, hid_in (fun t h => by omega), hid_in (fun t h h2 => by omega), Below.refl _ _⟩
 case round =>
  obtain ⟨i, j, rfl, rfl, hij, hjn, hlo, hhi, bw⟩ := hrel
  have z0 := (bw.block w.heap.size (by rw [← ew1.out]; simp)).trans z
  have k0 := cell_of_block z0 0
  have k1 := cell_of_block z0 1
  have k2 := cell_of_block z0 2
  simp only [List.getElem?_toArray, List.getElem?_cons_zero, List.getElem?_cons_succ] at k0 k1 k2
  by_cases hlt : i < j
  ·have hlt' : ((i : Int) < (j : Int)) := by omega
   go_upto_region 5 with fail
   obtain ⟨h, hh, hi1, hi2⟩ : ∃ h : Nat, ((i : Int) + (j : Int)) / 2 = (h : Int) ∧ i ≤ h ∧ h < j := ⟨(i + j) / 2, by omega, by omega, by omega⟩
   rw [hh]
   obtain ⟨D, r, T, eL, hD⟩ := split1 bs h (by have := en.out; omega)
   have hbl := HB.out.below bw
   have hrow := hbl.1
   rw [eL] at hrow
   obtain ⟨g, off, rfl, c0, c1, c2⟩ := hrow.block
   obtain ⟨ra, rc, er⟩ := (hbl.2 r (by rw [eL]; simp)).1.form
   rw [er] at c2
   rw [hD] at c0 c1 c2
   have HAT := hid_in (show cmpAt (bs.map BAt.plain) kind name h = blockCmp r.kind r.name kind name from by
    unfold cmpAt
    rw [List.getElem?_map, eL, List.getElem?_append_right (by omega), hD, Nat.sub_self]; rfl)
   have HC : ∀ p : Gr wr, Calls Tryz.prog 56 #[.agg #[.string r.kind, .string r.name, .slice ra r.ls.length rc], .agg #[.string kind, .string name, .slice none 0 0]] p.u fun e w' => e = .returned (.int .i64 (blockCmp r.kind r.name kind name)) ∧ Below p.u.heap.size p.u w' := fun p => (compareBlocks_any r.kind r.name kind name r.ls.length 0 rc 0 ra none p.u).mono fun e w' h => ⟨h.1, h.2.1⟩
   have u0 := fun p : Gr wr => gr_cell c0 p
   have u1 := fun p : Gr wr => gr_cell c1 p
   have u2 := fun p : Gr wr => gr_cell c2 p
   have v0 := fun p : Gr wr => gr_cell k0 p
   have v1 := fun p : Gr wr => gr_cell k1 p
   have v2 := fun p : Gr wr => gr_cell k2 p
   have h0 : (0 : Int) ≤ (h : Int) := by omega
   have h1 : (h : Int) < (n : Int) := by omega
   clear hbl hrow er eL hD c0 c1 c2
   generalize r.kind = rk at *
   generalize r.name = rn at *
   generalize r.ls.length = nr at *
   generalize hcr : blockCmp rk rn kind name = cr at *
   clear hcr
   refine wp_region_gr (by kernel_rfl) (by kernel_rfl) ?_
   iterate 6 quiet_step (fail)
   quiet_step ((go_at_call 56; refine gr_of (HC _)))
   quiet_step (fail)
   refine wpQuiet_nil ?_
   rintro wq ⟨⟨_, bq⟩, rfl⟩
   have Bq := bw.trans (bq.mono bw.size)
   clear u0 u1 u2 v0 v1 v2 HC k0 k1 k2
   by_cases hneg : cr < 0
   ·have HLO := hid_in (show ∀ t, t < h + 1 → cmpAt (bs.map BAt.plain) kind name t < 0 from fun t ht => HMO.out t h (by omega) (by omega) (by rw [HAT.out]; exact hneg))
    go_wp2
    go_roundw
    case rel => exact ⟨h + 1, j, by go_num, rfl, by omega, by omega, HLO, hhi, Bq⟩
    case measure => simp [intOf]; omega
   ·have HHI := hid_in (show ∀ t, h ≤ t → t < n → ¬ cmpAt (bs.map BAt.plain) kind name t < 0 from fun t ht htn hc => hneg (by rw [← HAT.out]; exact HMO.out h t ht htn hc))
    go_wp2
    go_roundw
    case rel => exact ⟨i, h, rfl, rfl, by omega, by omega, hlo, HHI, Bq⟩
    case measure => simp [intOf]; omega
  ·obtain rfl : i = j := by omega
   have hlt' : ¬ ((i : Int) < (i : Int)) := by omega
   have HBL := hid_in (show Belongs (bs.map BAt.plain) kind name i from ⟨by rw [List.length_map, en.out]; exact hjn, hlo.out, fun t h h2 => hhi.out t h (by rw [List.length_map, en.out] at h2; exact h2)⟩)
   have hPL := hid_in (show (bs.map BAt.plain).length = n from by rw [List.length_map]; exact en.out)
   by_cases hin : i < n
   ·obtain ⟨D, r, T, eL, hD⟩ := split1 bs i (by have := en.out; omega)
    have hbl := HB.out.below bw
    have hrow := hbl.1
    rw [eL] at hrow
    obtain ⟨g, off, rfl, c0, c1, c2⟩ := hrow.block
    obtain ⟨ra, rc, er⟩ := (hbl.2 r (by rw [eL]; simp)).1.form
    rw [er] at c2
    rw [hD] at c0 c1 c2
    have HAT := hid_in (show cmpAt (bs.map BAt.plain) kind name i = blockCmp r.kind r.name kind name from by
     unfold cmpAt
     rw [List.getElem?_map, eL, List.getElem?_append_right (by omega), hD, Nat.sub_self]; rfl)
    have HC : ∀ p : Gr wr, Calls Tryz.prog 56 #[.agg #[.string r.kind, .string r.name, .slice ra r.ls.length rc], .agg #[.string kind, .string name, .slice none 0 0]] p.u fun e w' => e = .returned (.int .i64 (blockCmp r.kind r.name kind name)) ∧ Below p.u.heap.size p.u w' := fun p => (compareBlocks_any r.kind r.name kind name r.ls.length 0 rc 0 ra none p.u).mono fun e w' h => ⟨h.1, h.2.1⟩
    have u0 := fun p : Gr wr => gr_cell c0 p
    have u1 := fun p : Gr wr => gr_cell c1 p
    have u2 := fun p : Gr wr => gr_cell c2 p
    have v0 := fun p : Gr wr => gr_cell k0 p
    have v1 := fun p : Gr wr => gr_cell k1 p
    have v2 := fun p : Gr wr => gr_cell k2 p
    have h0 : (0 : Int) ≤ (i : Int) := by omega
    have h1 : (i : Int) < (n : Int) := by omega
    clear hbl hrow er eL hD c0 c1 c2 hlo hhi
    generalize r.kind = rk at *
    generalize r.name = rn at *
    generalize r.ls.length = nr at *
    generalize hcr : blockCmp rk rn kind name = cr at *
    clear hcr
    go_upto_region 8 with fail
    refine wp_region_gr (by kernel_rfl) (by kernel_rfl) ?_
    iterate 11 quiet_step (fail)
    quiet_step ((go_at_call 56; refine gr_of (HC _)))
    iterate 4 quiet_step (fail)
    refine wpQuiet_nil ?_
    rintro wq ⟨⟨_, bq⟩, rfl⟩
    have HO := hid_in (show BsPost (bs.map BAt.plain) kind name w (.returned (.tuple #[.int .i64 (i : Int), .bool (cr == 0)])) wq from ⟨i, cr == 0, rfl, HBL.out, by rw [hPL.out, HAT.out, beq_iff_eq]; exact ⟨fun h => ⟨hin, h⟩, fun h => h.2⟩, G.trans ((bw.trans (bq.mono bw.size)).mono G.size)⟩)
    clear u0 u1 u2 v0 v1 v2 HC k0 k1 k2
    go_wp2
    go_ret2
    exact HO.out
   ·have h1 : ¬ (i : Int) < (n : Int) := by omega
    have HO := hid_in (show ∀ wq, Below wr.heap.size wr wq → BsPost (bs.map BAt.plain) kind name w (.returned (.tuple #[.int .i64 (i : Int), .bool false])) wq from fun wq bq => ⟨i, false, rfl, HBL.out, by rw [hPL.out]; exact ⟨fun h => Bool.noConfusion h, fun h => absurd h.1 hin⟩, G.trans ((bw.trans (bq.mono bw.size)).mono G.size)⟩)
    clear hlo hhi
    go_upto_region 8 with fail
    refine wp_region_gr (by kernel_rfl) (by kernel_rfl) ?_
    iterate 5 quiet_step (fail)
    iterate 8 (with_reducible refine quiet_skip ?_ ?_; kernel_rfl; simp only [Act.put, List.setIfInBounds_toArray, List.set_cons_zero, List.set_cons_succ])
    iterate 3 quiet_step (fail)
    refine wpQuiet_nil ?_
    rintro wq ⟨⟨_, bq⟩, rfl⟩
    have HO2 := hid_in (HO.out wq bq)
    go_wp2
    go_ret2
    exact HO2.out
end Go.Proofs.YtpdahhnjhggocabGreatDoor
namespace Go.Proofs.YtpdahhnjhggocabGreatDoor
open Go.RowKit
set_option maxHeartbeats 2000000 in
set_option maxRecDepth 100000 in
theorem findBlock_any {v : Value} {bs : List BAt} (kind name : ByteArray) {w : World} (hb : BlocksIn w v bs) (hl : bs.length ≤ 1048576) (hmono : ∀ s t, s ≤ t → t < bs.length → cmpAt (bs.map BAt.plain) kind name t < 0 → cmpAt (bs.map BAt.plain) kind name s < 0) : Calls Tryz.prog 157 #[v, .agg #[.string kind, .string name]] w fun e w' => BsPost (bs.map BAt.plain) kind name w e w' := by
 obtain ⟨ao, cap, rfl⟩ := hb.1.form
 have G := (Below.refl w.heap.size w).alloc (Nat.le_refl _) (.cells #[.string kind, .string name] 124)
 have HS := bsearch_any kind name (hb.below G) hl hmono
 clear hb hmono
 generalize bs.length = n at *
 go_enter Tryz.func157, Tryz.ntmps157
 go_wp2_with (go_at_call 216; refine HS.mono ?_)
 rintro e w2 ⟨i, f, rfl, h1, h2, b2⟩
 have HO := hid_in (show BsPost (bs.map BAt.plain) kind name w (.returned (.tuple #[.int .i64 (i : Int), .bool f])) w2 from ⟨i, f, rfl, h1, h2, G.trans (b2.mono G.size)⟩)
 clear HS h1 h2 b2
 go_wp2
 go_ret2
 exact HO.out
theorem sheet_mono {P : List PBlock} (h : P.Pairwise (fun a b => blockLt a b = true)) (kind name : ByteArray) : ∀ s t, s ≤ t → t < P.length → cmpAt P kind name t < 0 → cmpAt P kind name s < 0 := by
 intro s t hst ht hc
 rcases Nat.lt_or_ge s t with hlt | hge
 ·have hs : s < P.length := by omega
  have h1 := List.pairwise_iff_getElem.1 h s t hs ht hlt
  unfold cmpAt at hc ⊢
  rw [List.getElem?_eq_getElem ht] at hc
  rw [List.getElem?_eq_getElem hs]
  simp only at hc ⊢
  have h2 := (blockCmp_lt P[t] ⟨kind, name, []⟩).1 hc
  exact (blockCmp_lt P[s] ⟨kind, name, []⟩).2 (blockLt_trans _ _ _ h1 h2)
 ·have : s = t := by omega
  rw [this]; exact hc
end Go.Proofs.YtpdahhnjhggocabGreatDoor
namespace Go.Proofs.YtpdahhnjhggocabGreatDoor
open Go.RowKit
end Go.Proofs.YtpdahhnjhggocabGreatDoor
namespace Go.Proofs.YtpdahhnjhggocabGreatDoor
open Go.RowKit
end Go.Proofs.YtpdahhnjhggocabGreatDoor
namespace Go.Proofs.YtpdahhnjhggocabGreatDoor
open Go.RowKit
end Go.Proofs.YtpdahhnjhggocabGreatDoor
namespace Go.Proofs.YtpdahhnjhggocabGreatDoor
open Go.RowKit
end Go.Proofs.YtpdahhnjhggocabGreatDoor
namespace Go.Proofs.YtpdahhnjhggocabGreatDoor
open Go.RowKit
def I2F (W0 : World) (g n wc : Nat) (ta : Option Addr) (key : ByteArray) (ws : List Value) (i : Nat) (x : Value) (W : World) : Prop := match i with
 | 0 => x = (.slice (some ⟨g, 0, none⟩) (n + 1) wc)
 | 1 => x = (.pointer (some ⟨g, 0, none⟩))
 | 2 => x = .string key
 | 3 => ∃ h, x = .slice (some ⟨h, 0, none⟩) 0 0
 | 4 => x = (.slice (some ⟨g, 0, none⟩) (n + 1) wc)
 | 5 => x = (.slice ta n (wc - 1))
 | 6 => ∃ ao c, x = .slice ao n c ∧ W.ownsRow W0.heap.size 9 1 (.slice ao n c) n ws
 | 7 => ∃ ao c, x = .agg #[.string key, .slice ao n c] ∧ W.ownsRow W0.heap.size 9 1 (.slice ao n c) n ws
 | 8 => ∃ R, x = .pointer (some ⟨R, 0, none⟩) ∧ W.heap[R]? = some (.cells #[.string ⟨#[]⟩, .slice none 0 0] 82 (0, 0)) ∧ W0.heap.size ≤ R
 | _ => True
theorem I2F.keep {W0 : World} {g n wc : Nat} {ta : Option Addr} {key : ByteArray} {ws : List Value} {W W' : World} (hb : Below W.heap.size W W') (j : Nat) (y : Value) (h : I2F W0 g n wc ta key ws j y W) : I2F W0 g n wc ta key ws j y W' := by
 unfold I2F at *
 split <;> simp only at h ⊢
 all_goals first
  | exact h
  | (obtain ⟨ao, c, e, ho⟩ := h; exact ⟨ao, c, e, own_below ho hb⟩)
  | (obtain ⟨R, e, hh, hR⟩ := h; exact ⟨R, e, (hb.block R (Array.getElem?_eq_some_iff.1 hh).1).trans hh, hR⟩)
def I2J (a0 : Act) (W0 : World) (g n wc : Nat) (ta : Option Addr) (key : ByteArray) (ws : List Value) (L : Nat → Bool) (a : Act) (W : World) : Prop := ∃ v : Nat → Value, a = putS a0 [16, 17, 18, 19, 20, 21, 22, 23, 7] v ∧ (∀ i, L i = true → I2F W0 g n wc ta key ws i (v i) W) ∧ Below W0.heap.size W0 W ∧ (L 3 = true → L 6 = false → W.ownsRow W0.heap.size 9 1 (v 3) 0 []) ∧ (L 6 = true → L 3 = true) ∧ (L 7 = true → L 6 = true)
theorem I2J.next {a0 : Act} {W0 : World} {g n wc : Nat} {ta : Option Addr} {key : ByteArray} {ws : List Value} {L : Nat → Bool} {v : Nat → Value} {W W' : World} {a' : Act} (h : ∀ i, L i = true → I2F W0 g n wc ta key ws i (v i) W) (i : Nat) (x : Value) (ha : a' = putS a0 [16, 17, 18, 19, 20, 21, 22, 23, 7] (fun j => if j = i then x else v j)) (hkeep : ∀ j y, L j = true → I2F W0 g n wc ta key ws j y W → I2F W0 g n wc ta key ws j y W') (hi : I2F W0 g n wc ta key ws i x W') (hb : Below W0.heap.size W0 W')
  (ho : upd L i 3 = true → upd L i 6 = false → W'.ownsRow W0.heap.size 9 1 (if 3 = i then x else v 3) 0 []) (h63 : upd L i 6 = true → upd L i 3 = true) (h76 : upd L i 7 = true → upd L i 6 = true) : I2J a0 W0 g n wc ta key ws (upd L i) a' W' := by
 refine ⟨_, ha, fun j hj => ?_, hb, ho, h63, h76⟩
 by_cases e : j = i
 ·subst e; simpa using hi
 ·simp only [e, if_false]
  have hl : L j = true := by simpa [upd, e] using hj
  exact hkeep j _ hl (h j hl)
end Go.Proofs.YtpdahhnjhggocabGreatDoor
namespace Go.Proofs.YtpdahhnjhggocabGreatDoor
open Go.RowKit
theorem grownSetCell (W : World) (b o : Nat) (v : Value) : W.grownBy (W.setCell ⟨b, o, none⟩ v) (some b) := by
 refine ⟨rfl, rfl, rfl, by simp, fun k _ hk => ?_⟩
 have : b ≠ k := fun e => hk (by rw [e])
 simp [World.setCell, Array.getElem?_modify, this]
structure InJ (w : World) (R nl : Nat) (va : Option Addr) (vc : Nat) (bk bn : ByteArray) (bl : List LAt) (key : ByteArray) (ao : Option Addr) (nx c : Nat) (xs : List (List UInt8)) (W : World) : Prop where
 bw : Below w.heap.size w W
 sz : w.heap.size + 2 ≤ W.heap.size
 res : W.heap[w.heap.size + 1]? = some (.cells #[.string ⟨#[]⟩, .string ⟨#[]⟩, .slice none 0 0] 64 (0, 0))
 box : W.heap[w.heap.size]? = some (.cells #[.string bk, .string bn, .slice va nl vc] 64 (0, 0))
 line : W.heap[R]? = some (.cells #[.string key, .slice ao nx c] 82 (0, 0))
 hb : BlockIn W ⟨bk, bn, .slice va nl vc, bl⟩
 hx : HasRow W (.slice ao nx c) nx 1 (strs xs)
theorem InJ.below {w : World} {R nl : Nat} {va : Option Addr} {vc : Nat} {bk bn : ByteArray} {bl : List LAt} {key : ByteArray} {ao : Option Addr} {nx c : Nat} {xs : List (List UInt8)} {W W' : World} (h : InJ w R nl va vc bk bn bl key ao nx c xs W) (hb : Below W.heap.size W W') : InJ w R nl va vc bk bn bl key ao nx c xs W' :=
 ⟨h.bw.trans (hb.mono h.bw.size), Nat.le_trans h.sz hb.size, (hb.block _ (Array.getElem?_eq_some_iff.1 h.res).1).trans h.res, (hb.block _ (Array.getElem?_eq_some_iff.1 h.box).1).trans h.box, (hb.block _ (Array.getElem?_eq_some_iff.1 h.line).1).trans h.line, h.hb.below hb, h.hx.below hb⟩
end Go.Proofs.YtpdahhnjhggocabGreatDoor
namespace Go.Proofs.YtpdahhnjhggocabGreatDoor
open Go.RowKit
def PjS (S X : Nat) (done : List PBlock) (W : World) : Prop := ∃ sa sc bs, W.heap[S]? = some (.cells #[.slice sa bs.length sc] 24 (0, 0)) ∧ BlocksIn W (.slice sa bs.length sc) bs ∧ bs.map BAt.plain = normBs done ∧ BlocksFar S (.slice sa bs.length sc) bs ∧ BlocksFar X (.slice sa bs.length sc) bs ∧ ∀ b ∈ bs, b.name.size ≤ 1048576 ∧ LinesSmall b.ls
def PjO (S X k : Nat) (o : PBlock) (b : BAt) (W : World) : Prop := b.kind = o.kind ∧ b.name = o.name ∧ b.ls.map LAt.plain = normLs (rulesOf o.kind) o.lines ∧ BlockIn W b ∧ LinesFar S b.v b.ls ∧ LinesFar X b.v b.ls ∧ LinesSmall b.ls ∧ b.ls.length ≤ k ∧ b.name.size ≤ 1048576
def PjB (S X k : Nat) (op : Option PBlock) (W : World) : Prop := ∃ (b : BAt) (a : Option Addr) (n c : Nat), b.v = .slice a n c ∧ W.heap[X]? = some (.cells #[.string b.kind, .string b.name, .slice a n c] 64 (0, 0)) ∧ ∀ o, op = some o → PjO S X k o b W
structure PJ (w : World) (S X : Nat) (lv : Value) (ls : List (List UInt8)) (k : Nat) (done : List PBlock) (op : Option PBlock) (W : World) : Prop where
 bw : Below w.heap.size w W
 r0 : W.heap[w.heap.size]? = some (.cells #[.slice none 0 0] 24 (0, 0))
 r1 : W.heap[w.heap.size + 1]? = some (.cells #[.int .i64 0, .int .i64 0] 26 (0, 0))
 row : HasRow W lv ls.length 1 (strs ls)
 fs : FarV S lv ls.length
 fx : FarV X lv ls.length
 sx : w.heap.size + 2 ≤ S ∧ S < X
 sb : PjS S X done W
 bb : PjB S X k op W
theorem PjS.below {S X : Nat} {done : List PBlock} {W W' : World} (h : PjS S X done W) (hb : Below W.heap.size W W') : PjS S X done W' := by
 obtain ⟨sa, sc, bs, h1, h2, h3, h4, h5, h6⟩ := h
 exact ⟨sa, sc, bs, (hb.block _ (Array.getElem?_eq_some_iff.1 h1).1).trans h1, h2.below hb, h3, h4, h5, h6⟩
theorem PjB.below {S X k : Nat} {op : Option PBlock} {W W' : World} (h : PjB S X k op W) (hb : Below W.heap.size W W') : PjB S X k op W' := by
 obtain ⟨b, a, n, c, e, h1, h2⟩ := h
 refine ⟨b, a, n, c, e, (hb.block _ (Array.getElem?_eq_some_iff.1 h1).1).trans h1, fun o ho => ?_⟩
 obtain ⟨q1, q2, q3, q4, q5⟩ := h2 o ho
 exact ⟨q1, q2, q3, LinesIn.below q4 hb, q5⟩
theorem PJ.below {w : World} {S X : Nat} {lv : Value} {ls : List (List UInt8)} {k : Nat} {done : List PBlock} {op : Option PBlock} {W W' : World} (h : PJ w S X lv ls k done op W) (hb : Below W.heap.size W W') : PJ w S X lv ls k done op W' :=
 ⟨h.bw.trans (hb.mono h.bw.size), (hb.block _ (Array.getElem?_eq_some_iff.1 h.r0).1).trans h.r0, (hb.block _ (Array.getElem?_eq_some_iff.1 h.r1).1).trans h.r1, h.row.below hb, h.fs, h.fx, h.sx, h.sb.below hb, h.bb.below hb⟩
theorem PJ.skip {w : World} {S X : Nat} {lv : Value} {ls : List (List UInt8)} {k : Nat} {done : List PBlock} {op : Option PBlock} {W : World} (h : PJ w S X lv ls k done op W) : PJ w S X lv ls (k + 1) done op W := by
 obtain ⟨b, a, n, c, e, h1, h2⟩ := h.bb
 exact ⟨h.bw, h.r0, h.r1, h.row, h.fs, h.fx, h.sx, h.sb, b, a, n, c, e, h1, fun o ho => by
  obtain ⟨q1, q2, q3, q4, q5, q6, q7, q8, q9⟩ := h2 o ho
  exact ⟨q1, q2, q3, q4, q5, q6, q7, by omega, q9⟩⟩
theorem PJ.put {w : World} {S X : Nat} {lv : Value} {ls : List (List UInt8)} {k : Nat} {done : List PBlock} {o : PBlock} {W : World} (h : PJ w S X lv ls k done (some o) W) {a : Option Addr} {c : Nat} {bs' : List BAt} (hp : bs'.map BAt.plain = normBs (done ++ [o])) (hin : BlocksIn W (.slice a bs'.length c) bs') (fS : BlocksFar S (.slice a bs'.length c) bs') (fX : BlocksFar X (.slice a bs'.length c) bs') (hsm : ∀ b ∈ bs', b.name.size ≤ 1048576 ∧ LinesSmall b.ls) : PJ w S X lv ls (k + 1) (done ++ [o]) none (W.setCell ⟨S, 0, none⟩ (.slice a bs'.length c)) := by
 have hg := grownSetCell W S 0 (.slice a bs'.length c)
 obtain ⟨sa, sc, bs, h1, _⟩ := h.sb
 obtain ⟨b, ba, n, bc, e, hX, _⟩ := h.bb
 have hsx := h.sx
 have bz := h.bw.size
 have hk : ∀ q u, W.heap[q]? = some u → q ≠ S → (W.setCell ⟨S, 0, none⟩ (.slice a bs'.length c)).heap[q]? = some u := fun q u hq hn => (hg.block q (Array.getElem?_eq_some_iff.1 hq).1 (fun e => hn (by cases e; rfl))).trans hq
 refine ⟨below_setCell h.bw ⟨S, 0, none⟩ (by simp only; omega) _, hk _ _ h.r0 (by omega), hk _ _ h.r1 (by omega), h.row.far h.fs hg, h.fs, h.fx, h.sx, ⟨a, c, bs', ?_, hin.far fS hg, hp, fS, fX, hsm⟩, ⟨b, ba, n, bc, e, hk _ _ hX (by omega), fun o ho => by cases ho⟩⟩
 rw [heap_setCell_same W S 0 _ _ _ h1]; rfl
theorem PJ.turn {w : World} {S X : Nat} {lv : Value} {ls : List (List UInt8)} {k : Nat} {done : List PBlock} {op : Option PBlock} {W : World} (h : PJ w S X lv ls k done op W) {o : PBlock} {b : BAt} {a : Option Addr} {n c : Nat} (e : b.v = .slice a n c) (hO : PjO S X (k + 1) o b W) : PJ w S X lv ls (k + 1) done (some o) (((W.setCell ⟨X, 0, none⟩ (.string b.kind)).setCell ⟨X, 1, none⟩ (.string b.name)).setCell ⟨X, 2, none⟩ (.slice a n c)) := by
 have g1 := grownSetCell W X 0 (.string b.kind)
 have g2 := grownSetCell (W.setCell ⟨X, 0, none⟩ (.string b.kind)) X 1 (.string b.name)
 have g3 := grownSetCell ((W.setCell ⟨X, 0, none⟩ (.string b.kind)).setCell ⟨X, 1, none⟩ (.string b.name)) X 2 (.slice a n c)
 obtain ⟨sa, sc, bs, h1, h2, h3, h4, h5, h6⟩ := h.sb
 obtain ⟨b0, a0, n0, c0, _, hX, _⟩ := h.bb
 have hsx := h.sx
 have hk : ∀ q u, W.heap[q]? = some u → q ≠ X → (((W.setCell ⟨X, 0, none⟩ (.string b.kind)).setCell ⟨X, 1, none⟩ (.string b.name)).setCell ⟨X, 2, none⟩ (.slice a n c)).heap[q]? = some u := fun q u hq hn => by
  have hl := (Array.getElem?_eq_some_iff.1 hq).1
  have hne : some q ≠ some X := fun e => hn (by cases e; rfl)
  rw [g3.block q (Nat.lt_of_lt_of_le hl (Nat.le_trans g1.size g2.size)) hne, g2.block q (Nat.lt_of_lt_of_le hl g1.size) hne, g1.block q hl hne]; exact hq
 obtain ⟨q1, q2, q3, q4, q5, q6, q7, q8, q9⟩ := hO
 refine ⟨below_setCell (below_setCell (below_setCell h.bw ⟨X, 0, none⟩ (by simp only; omega) _) ⟨X, 1, none⟩ (by simp only; omega) _) ⟨X, 2, none⟩ (by simp only; omega) _, hk _ _ h.r0 (by omega), hk _ _ h.r1 (by omega), ((h.row.far h.fx g1).far h.fx g2).far h.fx g3, h.fs, h.fx, h.sx, ⟨sa, sc, bs, hk _ _ h1 (by omega), ((h2.far h5 g1).far h5 g2).far h5 g3, h3, h4, h5, h6⟩, ⟨b, a, n, c, e, ?_, fun o' ho => ?_⟩⟩
 ·have z1 := heap_setCell_same W X 0 _ _ (.string b.kind) hX
  have z2 := heap_setCell_same _ X 1 _ _ (.string b.name) z1
  rw [heap_setCell_same _ X 2 _ _ _ z2]; rfl
 ·cases ho
  exact ⟨q1, q2, q3, LinesIn.far (LinesIn.far (LinesIn.far q4 q6 g1) q6 g2) q6 g3, q5, q6, q7, q8, q9⟩
end Go.Proofs.YtpdahhnjhggocabGreatDoor
namespace Go.Proofs.YtpdahhnjhggocabGreatDoor
open Go.RowKit
theorem PjO.grow {S X k : Nat} {o : PBlock} {b : BAt} {W W4 : World} {a4 : Option Addr} {n4 c4 : Nat} {ls4 : List LAt} {x : List UInt8} {xs : List (List UInt8)} {v : Value} (h : PjO S X k o b W) (ev : b.v = v) (hk : k ≤ 400) (hS : S < W.heap.size) (hX : X < W.heap.size) (h7 : xs.length ≤ 7) (h2 : ∀ y ∈ x :: xs, y.length ≤ 200) (hp : ls4.map LAt.plain = putIn (lineLt (rulesOf b.kind)) ⟨keyOf x, xs⟩ (b.ls.map LAt.plain)) (hl : ls4.length = b.ls.length + 1) (hi : LinesIn W4 (.slice a4 n4 c4) ls4) (hf : ∀ q, q < W.heap.size → LinesFar q v b.ls → LinesFar q (.slice a4 n4 c4) ls4) : PjO S X (k + 1) ⟨o.kind, o.name, o.lines ++ [⟨keyOf x, xs⟩]⟩ ⟨b.kind, b.name, .slice a4 n4 c4, ls4⟩ W4 := by
 obtain ⟨q1, q2, q3, q4, q5, q6, q7, q8, q9⟩ := h
 rw [ev] at q5 q6
 refine ⟨q1, q2, ?_, hi, hf S hS q5, hf X hX q6, ⟨?_, fun y hy => ?_⟩, ?_, q9⟩
 ·rw [normLs_snoc, ← q3, ← q1]; exact hp
 ·show ls4.length ≤ 1048576; omega
 ·have hm : y.plain ∈ ls4.map LAt.plain := List.mem_map_of_mem hy
  rw [hp] at hm
  rcases List.mem_cons.1 ((putIn_perm _ _ _).mem_iff.1 hm) with hm | hm
  ·have e1 : y.ws = xs := congrArg PLine.ws hm
   rw [e1]
   exact ⟨by omega, fun z hz => by have := h2 z (List.mem_cons_of_mem _ hz); omega⟩
  ·obtain ⟨z, hz, ez⟩ := List.mem_map.1 hm
   have e1 : z.ws = y.ws := congrArg PLine.ws ez
   rw [← e1]; exact q7.2 z hz
 ·show ls4.length ≤ k + 1; omega
end Go.Proofs.YtpdahhnjhggocabGreatDoor
namespace Go.Proofs.YtpdahhnjhggocabGreatDoor
open Go.RowKit
set_option maxHeartbeats 4000000 in
theorem need_true (M : Nat) (w : World) : Calls Tryz.prog 222 #[.pointer (some ⟨M, 0, none⟩), .bool true] w fun e w' => e = .returned (.tuple #[]) ∧ w' = w := by
 go_enter Tryz.func222, Tryz.ntmps222
 go_wp2
 go_end0
 exact ⟨rfl, rfl⟩
set_option maxHeartbeats 4000000 in
theorem need_false {M : Nat} {w : World} {p : Int} (hm : w.cell? ⟨M, 1, none⟩ = some (.int .i64 p)) : Calls Tryz.prog 222 #[.pointer (some ⟨M, 0, none⟩), .bool false] w fun e w' => e = .panicked [{ v := .iface 230 (.agg #[.int .i64 p]), recovered := false }] ∧ w' = w := by
 go_enter Tryz.func222, Tryz.ntmps222
 go_wp2
 exact ⟨rfl, rfl, rfl⟩
end Go.Proofs.YtpdahhnjhggocabGreatDoor
