import Derived.Test.YtpdahhnjhggocabGreatDoorBun4
import Derived.Test.YtpdahhnjhggocabGreatDoorProg
import Derived.WalkKit
import Derived.WalkMore
import Derived.WalkSpells
import Derived.WalkLawsBesides
import Derived.LoopTactic
import Derived.Deep.RegionHeld3
import Derived.Deep.AppendLies
import Derived.Deep.QuietTactic
import Derived.BigQuiet
import Derived.WalkSmall
import Derived.Laws.OwnMore
import Derived.Laws.IdiomStrings
import Derived.Laws.BytesArg
import Derived.Laws.BitsLemmas
import Derived.Lib.Strings
import Derived.Lib.UnsafeStr
namespace Go.Proofs.YtpdahhnjhggocabGreatDoor
open Go.RowKit
theorem ret_int {k : IntKind} {a b : Int} (h : a = b) : Ending.returned (.int k a) = .returned (.int k b) := by rw [h]
theorem ret_val {a b : Value} (h : a = b) : Ending.returned a = .returned b := by rw [h]
theorem ret_bool {a b : Bool} (h : a = b) : Ending.returned (.bool a) = .returned (.bool b) := by rw [h]
theorem bytes_drop (t : ByteArray) (k : Nat) : (t.extract k t.size).data.toList = t.data.toList.drop k := by
 rw [Lib.extract_data]; exact List.take_of_length_le (by simp)
theorem conv_own (w1 : World) (v : Value) (B : Nat) (l : List UInt8) (n : Nat) (h : w1.ownsRow B 5 1 v n (Lib.byteCells l)) :
  (convert 93 9 v).run Tryz.prog w1 = .ok (.string ⟨l.toArray⟩) w1 := by
 have hlen : l.length = n := by have := h.1; simpa [Lib.byteCells_length] using this
 subst hlen
 rcases h.2 with ⟨rfl, h0⟩ | ⟨g, cap, cur, rfl, hrest⟩
 ·have : l = [] := List.length_eq_zero_iff.1 h0
  subst this
  exact run_convert_bytes_nil w1 93 5 Tryz.underlying93 Tryz.underlying5 0 0 9 Tryz.underlying9
 ·refine run_convert_bytes_back w1 93 9 5 ⟨g, 0, none⟩ cap l Tryz.underlying93 Tryz.underlying5 Tryz.underlying9 fun j hj => ?_
  refine h.cells rfl j _ ?_
  simp only [Lib.byteCells, List.getElem?_map, List.getElem?_eq_getElem hj]; rfl
theorem own_setCell {w : World} {base : Nat} {e : TypeId} {size : Nat} {v : Value} {n : Nat} {xs : List Value} (h : w.ownsRow base e size v n xs) (p : Addr) (hp : p.block < base) (u : Value) : (w.setCell p u).ownsRow base e size v n xs := by
 refine ⟨h.1, ?_⟩
 rcases h.2 with h2 | ⟨g, cap, cur, hv, hb, hg, hrest⟩
 ·exact Or.inl h2
 ·exact Or.inr ⟨g, cap, cur, hv, hb, by rw [Below.heap_setCell _ _ _ _ (by omega)]; exact hg, hrest⟩
theorem own_mono {w : World} {base base' : Nat} {e : TypeId} {size : Nat} {v : Value} {n : Nat} {xs : List Value} (h : w.ownsRow base e size v n xs) (hb : base' ≤ base) : w.ownsRow base' e size v n xs := by
 refine ⟨h.1, ?_⟩
 rcases h.2 with h2 | ⟨g, cap, cur, hv, hg, hrest⟩
 ·exact Or.inl h2
 ·exact Or.inr ⟨g, cap, cur, hv, by omega, hrest⟩
theorem own_below {w w' : World} {base : Nat} {e : TypeId} {size : Nat} {v : Value} {n : Nat} {xs : List Value} (h : w.ownsRow base e size v n xs) (hb : Below w.heap.size w w') : w'.ownsRow base e size v n xs := by
 refine ⟨h.1, ?_⟩
 rcases h.2 with h2 | ⟨g, cap, cur, hv, hg, hh, hrest⟩
 ·exact Or.inl h2
 ·refine Or.inr ⟨g, cap, cur, hv, hg, ?_, hrest⟩
  rw [hb.block g ?_]
  ·exact hh
  ·exact (Array.getElem?_eq_some_iff.1 hh).1
theorem info9 : (Tryz.prog.info? 9).map (fun i => (i.zero, i.size, i.bytes)) = some (some (.string ⟨#[]⟩), 1, 16) := by kernel_rfl
theorem cat_bytes (a b : List UInt8) : (⟨a.toArray⟩ ++ ⟨b.toArray⟩ : ByteArray) = ⟨(a ++ b).toArray⟩ := by
 apply ByteArray.ext; simp
theorem conv_one (w : World) (c : UInt8) : (convert 93 9 (.slice (some ⟨w.heap.size, 0, none⟩) 1 1)).run Tryz.prog (w.alloc (.cells #[.int .u8 (c.toNat : Int)] 5)) = .ok (.string ⟨#[c]⟩) (w.alloc (.cells #[.int .u8 (c.toNat : Int)] 5)) :=
 conv_own _ _ w.heap.size [c] 1 (World.ownsRow_lit w #[.int .u8 (c.toNat : Int)] 1 (Nat.le_refl _) (by decide) rfl)
theorem grown_of_below {w w' : World} (h : Below w.heap.size w w') (row : Option Nat) : w.grownBy w' row := ⟨h.os, h.tape, h.output, h.size, fun i hi _ => h.block i hi⟩
theorem grown_trans {a b c : World} {row : Option Nat} (h : a.grownBy b row) (k : b.grownBy c row) : a.grownBy c row :=
 ⟨k.os.trans h.os, k.tape.trans h.tape, k.output.trans h.output, Nat.le_trans h.size k.size, fun i hi hne => (k.block i (Nat.lt_of_lt_of_le hi h.size) hne).trans (h.block i hi hne)⟩
theorem strs_at (ws : List (List UInt8)) (j : Nat) (h : j < ws.length) : (strs ws)[j]? = some (.string ⟨ws[j].toArray⟩) := by
 simp [strs, h]
theorem own_form {w : World} {base : Nat} {e : TypeId} {size : Nat} {v : Value} {n : Nat} {xs : List Value} (h : w.ownsRow base e size v n xs) : ∃ ao cap, v = .slice ao n cap ∧ (n = 0 ∨ ∃ g, ao = some ⟨g, 0, none⟩) := by
 rcases h.2 with ⟨rfl, rfl⟩ | ⟨g, cap, cur, rfl, _⟩
 ·exact ⟨none, 0, rfl, Or.inl rfl⟩
 ·exact ⟨_, _, rfl, Or.inr ⟨g, rfl⟩⟩
end Go.Proofs.YtpdahhnjhggocabGreatDoor
namespace Go.Proofs.YtpdahhnjhggocabGreatDoor
open Go.RowKit
structure MRow where
 v : Value
 e : TypeId
 size : Nat
 n : Nat
 xs : List Value
def MRow.isAt (r : MRow) (B : Nat) (w : World) : Prop := w.ownsRow B r.e r.size r.v r.n r.xs
def Mem (B : Nat) (w : World) (L : List MRow) : Prop := (∀ r ∈ L, r.isAt B w) ∧ L.Pairwise (fun r s => r.v.ownBlock = none ∨ r.v.ownBlock ≠ s.v.ownBlock)
theorem Mem.nil (B : Nat) (w : World) : Mem B w [] := ⟨by simp, by simp⟩
theorem Mem.kept {B : Nat} {w w' : World} {L : List MRow} (h : Mem B w L) (hg : w.grownBy w' none) : Mem B w' L :=
 ⟨fun r hr => World.ownsRow.kept (h.1 r hr) hg (by cases hv : r.v.ownBlock <;> simp), h.2⟩
theorem Mem.below {B : Nat} {w w' : World} {L : List MRow} (h : Mem B w L) (hb : Below w.heap.size w w') : Mem B w' L := h.kept (grown_of_below hb none)
theorem Mem.mono {B B' : Nat} {w : World} {L : List MRow} (h : Mem B w L) (hB : B' ≤ B) : Mem B' w L := ⟨fun r hr => own_mono (h.1 r hr) hB, h.2⟩
theorem Mem.lt {B : Nat} {w : World} {L : List MRow} (h : Mem B w L) {r : MRow} (hr : r ∈ L) {g : Nat} (hg : r.v.ownBlock = some g) : B ≤ g ∧ g < w.heap.size := World.ownsRow.lt (h.1 r hr) g hg
theorem Mem.join {B : Nat} {w w' : World} {L N : List MRow} (h : Mem B w L) (hN : Mem w.heap.size w' N) (hb : Below w.heap.size w w') (hB : B ≤ w.heap.size) : Mem B w' (N ++ L) := by
 have h' := h.below hb
 refine ⟨fun r hr => ?_, List.pairwise_append.2 ⟨hN.2, h.2, fun r hr s hs => ?_⟩⟩
 ·rcases List.mem_append.1 hr with h1 | h1
  ·exact own_mono (hN.1 r h1) hB
  ·exact h'.1 r h1
 ·cases hv : r.v.ownBlock with
  | none => exact Or.inl rfl
  | some g =>
   refine Or.inr fun e => ?_
   have h1 := (hN.lt hr hv).1
   have h2 := (h.lt hs e.symm).2
   omega
theorem Mem.cons {B : Nat} {w w' : World} {L : List MRow} {r : MRow} (h : Mem B w L) (hr : r.isAt w.heap.size w') (hb : Below w.heap.size w w') (hB : B ≤ w.heap.size) : Mem B w' (r :: L) :=
 h.join (N := [r]) ⟨fun s hs => by rw [List.mem_singleton.1 hs]; exact hr, by simp⟩ hb hB
theorem Mem.head {B : Nat} {w : World} {L : List MRow} {r : MRow} (h : Mem B w (r :: L)) : w.ownsRow B r.e r.size r.v r.n r.xs := h.1 r (by simp)
theorem Mem.tail {B : Nat} {w : World} {L : List MRow} {r : MRow} (h : Mem B w (r :: L)) : Mem B w L := ⟨fun s hs => h.1 s (by simp [hs]), (List.pairwise_cons.1 h.2).2⟩
theorem Mem.left {B : Nat} {w : World} {L N : List MRow} (h : Mem B w (N ++ L)) : Mem B w N := ⟨fun s hs => h.1 s (by simp [hs]), (List.pairwise_append.1 h.2).1⟩
theorem Mem.right {B : Nat} {w : World} {L N : List MRow} (h : Mem B w (N ++ L)) : Mem B w L := ⟨fun s hs => h.1 s (by simp [hs]), (List.pairwise_append.1 h.2).2.1⟩
theorem Mem.turn {B : Nat} {w w' : World} {L : List MRow} {r r' : MRow} (h : Mem B w (r :: L)) (hv : r'.v = r.v) (hr : r'.isAt B w') (hg : w.grownBy w' r.v.ownBlock) : Mem B w' (r' :: L) := by
 have hp := List.pairwise_cons.1 h.2
 refine ⟨fun s hs => ?_, List.pairwise_cons.2 ⟨fun s hs => by rw [hv]; exact hp.1 s hs, hp.2⟩⟩
 rcases List.mem_cons.1 hs with rfl | h1
 ·exact hr
 ·refine World.ownsRow.kept (h.1 s (by simp [h1])) hg ?_
  rcases hp.1 s h1 with h2 | h2
  ·cases hs' : s.v.ownBlock with
   | none => exact Or.inl rfl
   | some g => right; rw [h2]; simp
  ·exact Or.inr (fun e => h2 e.symm)
theorem Mem.perm {B : Nat} {w : World} {L N : List MRow} (h : Mem B w L) (hp : L.Perm N) : Mem B w N := by
 refine ⟨fun r hr => h.1 r (hp.mem_iff.2 hr), ?_⟩
 refine (hp.pairwise_iff ?_).1 h.2
 intro r s hrs
 rcases hrs with h1 | h1
 ·by_cases h2 : s.v.ownBlock = none
  ·exact Or.inl h2
  ·exact Or.inr (by rw [h1]; exact h2)
 ·exact Or.inr (Ne.symm h1)
def intsV (l : List Int) : List Value := l.map (Value.int .i64)
theorem intsV_length (l : List Int) : (intsV l).length = l.length := by simp [intsV]
end Go.Proofs.YtpdahhnjhggocabGreatDoor
namespace Go.Proofs.YtpdahhnjhggocabGreatDoor
open Go.RowKit
theorem add_off (g k : Nat) : (⟨g, 0, none⟩ : Addr).add k = ⟨g, k, none⟩ := by
 unfold Addr.add; split <;> simp_all
def HasRow (w : World) (v : Value) (n size : Nat) (xs : List Value) : Prop := xs.length = n * size ∧ ∃ ao cap, v = .slice ao n cap ∧ (n ≤ cap ∧ cap ≤ maxLen) ∧ (n = 0 ∨ ∃ b off, ao = some ⟨b, off, none⟩ ∧ ∀ j u, xs[j]? = some u → w.cell? ⟨b, off + j, none⟩ = some u)
theorem HasRow.below {w w' : World} {v : Value} {n size : Nat} {xs : List Value} (h : HasRow w v n size xs) (hb : Below w.heap.size w w') : HasRow w' v n size xs := by
 obtain ⟨hl, ao, cap, hv, hk, hc⟩ := h
 refine ⟨hl, ao, cap, hv, hk, ?_⟩
 rcases hc with h0 | ⟨b, off, ha, hc⟩
 ·exact .inl h0
 ·exact .inr ⟨b, off, ha, fun j u hj => (hb.cell (World.block_lt_of_cell? w _ (hc j u hj))).trans (hc j u hj)⟩
theorem own_has {w : World} {B : Nat} {e : TypeId} {size : Nat} {v : Value} {n : Nat} {xs : List Value} (h : w.ownsRow B e size v n xs) : HasRow w v n size xs := by
 refine ⟨h.1, ?_⟩
 have h2 := h.2
 rcases h2 with ⟨rfl, rfl⟩ | ⟨g, cap, cur, rfl, _, _, hk, hm, _⟩
 ·exact ⟨none, 0, rfl, ⟨Nat.le_refl _, Nat.zero_le _⟩, .inl rfl⟩
 ·refine ⟨some ⟨g, 0, none⟩, cap, rfl, ⟨hk, hm⟩, .inr ⟨g, 0, rfl, fun j u hj => ?_⟩⟩
  have := h.cells (g := g) rfl j u hj
  rw [add_off] at this
  rw [Nat.zero_add]; exact this
theorem HasRow.form {w : World} {v : Value} {n size : Nat} {xs : List Value} (h : HasRow w v n size xs) : ∃ ao cap, v = .slice ao n cap := by
 obtain ⟨_, ao, cap, hv, _⟩ := h; exact ⟨ao, cap, hv⟩
theorem HasRow.at {w : World} {ao : Option Addr} {n m cap size : Nat} {xs : List Value} (h : HasRow w (.slice ao m cap) n size xs) (h0 : 0 < n) : ∃ b off, ao = some ⟨b, off, none⟩ ∧ ∀ j u, xs[j]? = some u → w.cell? ⟨b, off + j, none⟩ = some u := by
 obtain ⟨_, ao', cap', hv, _, hc⟩ := h
 cases hv
 rcases hc with h1 | h1
 ·omega
 ·exact h1
theorem HasRow.cap {w : World} {ao : Option Addr} {n m cap size : Nat} {xs : List Value} (h : HasRow w (.slice ao m cap) n size xs) : n ≤ cap ∧ cap ≤ maxLen := by
 obtain ⟨_, ao', cap', hv, hk, _⟩ := h
 cases hv
 exact hk
theorem HasRow.take {w : World} {ao : Option Addr} {n cap size : Nat} {xs : List Value} (h : HasRow w (.slice ao n cap) n size xs) (k : Nat) (hk : k ≤ n) : HasRow w (.slice ao k cap) k size (xs.take (k * size)) := by
 obtain ⟨hl, ao', c', hv, hcap, hc⟩ := h
 cases hv
 refine ⟨?_, ao, cap, rfl, ⟨by omega, hcap.2⟩, ?_⟩
 ·rw [List.length_take, hl]
  have : k * size ≤ n * size := Nat.mul_le_mul_right _ hk
  omega
 ·rcases hc with h0 | ⟨b, off, ha, hc⟩
  ·exact .inl (by omega)
  ·refine .inr ⟨b, off, ha, fun j u hj => hc j u ?_⟩
   rw [List.getElem?_take] at hj
   split at hj
   ·exact hj
   ·cases hj
theorem HasRow.word {w : World} {ao : Option Addr} {n m cap : Nat} {ws : List (List UInt8)} (h : HasRow w (.slice ao m cap) n 1 (strs ws)) (j : Nat) (hj : j < ws.length) : ∃ b off, ao = some ⟨b, off, none⟩ ∧ w.cell? ⟨b, off + j, none⟩ = some (.string ⟨ws[j].toArray⟩) := by
 have hn : 0 < n := by have := h.1; rw [strs_length] at this; omega
 obtain ⟨b, off, ha, hc⟩ := h.at hn
 exact ⟨b, off, ha, hc j _ (strs_at ws j hj)⟩
end Go.Proofs.YtpdahhnjhggocabGreatDoor
namespace Go.Proofs.YtpdahhnjhggocabGreatDoor
open Go.RowKit
def digB (k : Nat) : UInt8 := UInt8.ofNat (48 + k % 10)
def digs : Nat → Nat → List UInt8 → List UInt8
 | 0, _, out => out
 | f + 1, k, out => if k = 0 then out else digs f (k / 10) (digB k :: out)
def markL (k : Nat) : List UInt8 := 109 :: digs k k []
theorem digs_zero (f : Nat) (out : List UInt8) : digs f 0 out = out := by cases f <;> simp [digs]
theorem digs_step (f k : Nat) (out : List UInt8) (hk : k ≠ 0) : digs (f + 1) k out = digs f (k / 10) (digB k :: out) := by simp [digs, hk]
theorem dig_byte (k : Nat) : ((digB k).toNat : Int) = 48 + (k : Int) % 10 := by
 unfold digB
 have : (UInt8.ofNat (48 + k % 10)).toNat = 48 + k % 10 := by rw [UInt8.toNat_ofNat']; omega
 rw [this]; omega
set_option maxHeartbeats 1000000 in
set_option maxRecDepth 100000 in
theorem markText_any (k : Nat) (w : World) (h1 : 1 ≤ k) (h2 : k ≤ 4611686018427387904) : Calls Tryz.prog 81 #[.int .i64 (k : Int)] w fun e w' => e = .returned (.string ⟨(markL k).toArray⟩) ∧ Below w.heap.size w w' := by
 obtain ⟨D, hD⟩ : ∃ D, digs k k [] = D := ⟨_, rfl⟩
 have HM : Hid (digs k k [] = D) := hD
 have HD : Hid (markL k = 109 :: D) := by show _ = _; rw [markL, hD]
 clear hD
 rw [HD.out]
 clear HD
 have hk0 : ¬ (k : Int) ≤ 0 := by omega
 go_enter Tryz.func81, Tryz.ntmps81
 go_wp2
 go_loopw [0, 3] (fun i o wr => ∃ (j f : Nat) (out : List UInt8), j ≤ f ∧ j ≤ 4611686018427387904 ∧ out.length + f ≤ k ∧ i = .int .i64 (j : Int) ∧ o = .string ⟨out.toArray⟩ ∧ Hid (digs f j out = D) ∧ Below w.heap.size w wr) (fun i _ _ => (intOf i).toNat)
 case atStart => exact ⟨k, k, [], Nat.le_refl _, by omega, by simp, rfl, rfl, HM, Below.refl _ _⟩
 case round =>
  obtain ⟨j, f, out, hjf, hj, hol, rfl, rfl, hD, hbw⟩ := hrel
  clear HM
  by_cases hj0 : j = 0
  ·subst hj0
   have HF : Hid (out = D) := by show _ = _; rw [← hD.out, digs_zero]
   clear hD
   go_wp2
   go_ret
   exact ⟨by rw [← HF.out]; exact ret_val (congrArg Value.string (cat_bytes [109] out)), hbw⟩
  ·have hj1 : (0 : Int) < (j : Int) := by omega
   obtain ⟨f', rfl⟩ : ∃ f', f = f' + 1 := ⟨f - 1, by omega⟩
   have HS : Hid (digs f' (j / 10) (digB j :: out) = D) := by show _ = _; rw [← hD.out, digs_step _ _ _ hj0]
   clear hD
   have hcv := conv_one wr (digB j)
   rw [dig_byte] at hcv
   go_wp2
   go_roundw
   case rel =>
    exact ⟨j / 10, f', digB j :: out, by omega, by omega, by simp; omega, by go_num, congrArg Value.string (cat_bytes [digB j] out), HS, hbw.alloc hbw.size _⟩
   case measure => simp [intOf]; omega
def marks (k n : Nat) : List (List UInt8) := (List.range n).map fun i => markL (k + i)
theorem marks_length (k n : Nat) : (marks k n).length = n := by simp [marks]
theorem marks_succ (k n : Nat) : marks k (n + 1) = marks k n ++ [markL (k + n)] := by simp [marks, List.range_succ]
def part (k i : Nat) (xs : List Value) : List Value := strs (marks k i) ++ xs.drop i
theorem part_set (k i : Nat) (xs : List Value) (h : i < xs.length) : (part k i xs).set i (.string ⟨(markL (k + i)).toArray⟩) = part k (i + 1) xs := by
 unfold part
 have e : xs.drop i = xs[i] :: xs.drop (i + 1) := List.drop_eq_getElem_cons h
 have hl : (strs (marks k i)).length = i := by rw [strs_length, marks_length]
 rw [e, List.set_append_right _ _ (by omega), hl, Nat.sub_self, List.set_cons_zero, marks_succ, strs_append]
 simp [strs]
theorem part_zero (k : Nat) (xs : List Value) : part k 0 xs = xs := by simp [part, marks, strs]
theorem part_all (k n : Nat) (xs : List Value) (h : xs.length = n) : part k n xs = strs (marks k n) := by
 unfold part; rw [List.drop_of_length_le (by omega), List.append_nil]
theorem marks_at (k n j : Nat) (h : j < n) : (strs (marks k n))[j]? = some (.string ⟨(markL (k + j)).toArray⟩) := by
 simp [strs, marks, h]
set_option maxHeartbeats 1000000 in
set_option maxRecDepth 100000 in
theorem markStrings_any (B g cap n k : Nat) (xs : List Value) (w : World) (hown : w.ownsRow B 9 1 (.slice (some ⟨g, 0, none⟩) n cap) n xs) (h1 : 1 ≤ k) (h2 : k + n ≤ 4611686018427387904) :
  Calls Tryz.prog 82 #[.slice (some ⟨g, 0, none⟩) n cap, .int .i64 (k : Int)] w fun e w' => e = .returned (.int .i64 ((k : Int) + (n : Int))) ∧ w'.ownsRow B 9 1 (.slice (some ⟨g, 0, none⟩) n cap) n (strs (marks k n)) ∧ w.grownBy w' (some g) := by
 have hxl : xs.length = n := by have := hown.1; omega
 go_enter Tryz.func82, Tryz.ntmps82
 go_wp2
 go_loopw [1, 5] (fun q i wr => ∃ j : Nat, j ≤ n ∧ i = .int .i64 (j : Int) ∧ q = .int .i64 ((k : Int) + (j : Int)) ∧ wr.ownsRow B 9 1 (.slice (some ⟨g, 0, none⟩) n cap) n (part k j xs) ∧ w.grownBy wr (some g)) (fun _ i _ => n - (intOf i).toNat)
 case atStart => exact ⟨0, by omega, rfl, by simp, by rw [part_zero]; exact hown, World.grownBy.refl _ _⟩
 case round =>
  obtain ⟨j, hj, rfl, rfl, hown1, hgr⟩ := hrel
  by_cases hlt : j < n
  ·have HM := fun W => markText_any (k + j) W (by omega) (by omega)
   have ek : ((k + j : Nat) : Int) = (k : Int) + (j : Int) := by omega
   rw [ek] at HM
   have HP : Hid _ := part_set k j xs (by omega)
   clear ek
   go_wp2_with (go_at_call 81; refine (HM _).mono ?_)
   rintro e w1 ⟨rfl, b1⟩
   have hown2 := own_below hown1 b1
   have hc := hown2.cellAt j (by omega)
   have hcs : ∃ u, (part k j xs)[j]? = some u := ⟨_, List.getElem?_eq_getElem (by have := hown1.1; omega)⟩
   obtain ⟨u, hu⟩ := hcs
   rw [hu] at hc
   have hf := hown2.frozenAt j
   have hst := hown2.stored j (.string ⟨(markL (k + j)).toArray⟩)
   clear HM hu
   go_wp2
   go_roundw
   case rel =>
    refine ⟨j + 1, by omega, by go_num, by go_num, ?_, grown_trans (grown_trans hgr (grown_of_below b1 _)) hst.2⟩
    rw [← HP.out]; exact hst.1
   case measure => simp [intOf]; omega
  ·obtain rfl : j = n := by omega
   rw [part_all k j xs hxl] at hown1
   go_wp2
   go_ret
   exact ⟨rfl, hown1, hgr⟩
set_option maxHeartbeats 1000000 in
set_option maxRecDepth 100000 in
theorem heldStrings_any (B g cap n k : Nat) (w : World) (hown : w.ownsRow B 9 1 (.slice (some ⟨g, 0, none⟩) n cap) n (strs (marks k n))) (h1 : 1 ≤ k) (h2 : k + n ≤ 4611686018427387904) :
  Calls Tryz.prog 83 #[.slice (some ⟨g, 0, none⟩) n cap, .int .i64 (k : Int)] w fun e w' => e = .returned (.int .i64 ((k : Int) + (n : Int))) ∧ Below w.heap.size w w' := by
 go_enter Tryz.func83, Tryz.ntmps83
 go_wp2
 go_loopw [1, 5] (fun q i wr => ∃ j : Nat, j ≤ n ∧ i = .int .i64 (j : Int) ∧ q = .int .i64 ((k : Int) + (j : Int)) ∧ Below w.heap.size w wr) (fun _ i _ => n - (intOf i).toNat)
 case atStart => exact ⟨0, by omega, rfl, by simp, Below.refl _ _⟩
 case round =>
  obtain ⟨j, hj, rfl, rfl, hbw⟩ := hrel
  by_cases hlt : j < n
  ·have HM := fun W => markText_any (k + j) W (by omega) (by omega)
   have ek : ((k + j : Nat) : Int) = (k : Int) + (j : Int) := by omega
   rw [ek] at HM
   clear ek
   have hc : wr.cell? ⟨g, j, none⟩ = some (.string ⟨(markL (k + j)).toArray⟩) := by
    have := (own_below hown hbw).cellAt j (by omega)
    rw [this, marks_at k n j hlt]
   have hlg := World.block_lt_of_cell? wr _ hc
   generalize (⟨(markL (k + j)).toArray⟩ : ByteArray) = M at *
   go_wp2
   go_region_held3 (fun w' => w'.cell? ⟨g, j, none⟩ = some (.string M)) (first | go_keep | (rw [b1.cell (by simp; omega)]; go_keep))
    (first | (go_at_call 81; refine (HM _).mono ?_; rintro e w1 ⟨rfl, b1⟩))
   all_goals
    go_wp2
    go_roundw
    case rel => exact ⟨j + 1, by omega, by go_num, by go_num, hbw.trans (((Below.refl wr.heap.size wr).drew.trans b1).mono hbw.size)⟩
    case measure => simp [intOf]; omega
  ·obtain rfl : j = n := by omega
   go_wp2
   go_ret
   exact ⟨rfl, hbw⟩
end Go.Proofs.YtpdahhnjhggocabGreatDoor
namespace Go.Proofs.YtpdahhnjhggocabGreatDoor
open Go.RowKit
end Go.Proofs.YtpdahhnjhggocabGreatDoor
namespace Go.Proofs.YtpdahhnjhggocabGreatDoor
open Go.RowKit
set_option maxHeartbeats 400000 in
theorem markStrings_zero (ao : Option Addr) (cap k : Nat) (w : World) : Calls Tryz.prog 82 #[.slice ao 0 cap, .int .i64 (k : Int)] w fun e w' => e = .returned (.int .i64 (k : Int)) ∧ w' = w := by
 go_enter Tryz.func82, Tryz.ntmps82
 go_wp2
 refine wp_loop_rounds 1 ?_
 rw [rounds_succ]
 go_wp2
 go_ret
 exact ⟨rfl, rfl⟩
set_option maxHeartbeats 400000 in
theorem heldStrings_zero (ao : Option Addr) (cap k : Nat) (w : World) : Calls Tryz.prog 83 #[.slice ao 0 cap, .int .i64 (k : Int)] w fun e w' => e = .returned (.int .i64 (k : Int)) ∧ w' = w := by
 go_enter Tryz.func83, Tryz.ntmps83
 go_wp2
 refine wp_loop_rounds 1 ?_
 rw [rounds_succ]
 go_wp2
 go_ret
 exact ⟨rfl, rfl⟩
theorem markStrings_own {B n k : Nat} {v : Value} {xs : List Value} {w : World} (hown : w.ownsRow B 9 1 v n xs) (h1 : 1 ≤ k) (h2 : k + n ≤ 4611686018427387904) :
  Calls Tryz.prog 82 #[v, .int .i64 (k : Int)] w fun e w' => e = .returned (.int .i64 ((k : Int) + (n : Int))) ∧ w'.ownsRow B 9 1 v n (strs (marks k n)) ∧ w.grownBy w' v.ownBlock := by
 obtain ⟨ao, cap, rfl, hf⟩ := own_form hown
 by_cases h0 : n = 0
 ·subst h0
  refine (markStrings_zero ao cap k w).mono ?_
  rintro e w' ⟨rfl, rfl⟩
  refine ⟨by simp, ?_, World.grownBy.refl _ _⟩
  have : xs = strs (marks k 0) := by have := hown.1; simp at this; subst this; rfl
  rw [← this]; exact hown
 ·rcases hf with hf | ⟨g, rfl⟩
  ·exact absurd hf h0
  ·exact markStrings_any B g cap n k xs w hown h1 h2
theorem heldStrings_own {B n k : Nat} {v : Value} {w : World} (hown : w.ownsRow B 9 1 v n (strs (marks k n))) (h1 : 1 ≤ k) (h2 : k + n ≤ 4611686018427387904) :
  Calls Tryz.prog 83 #[v, .int .i64 (k : Int)] w fun e w' => e = .returned (.int .i64 ((k : Int) + (n : Int))) ∧ Below w.heap.size w w' := by
 obtain ⟨ao, cap, rfl, hf⟩ := own_form hown
 by_cases h0 : n = 0
 ·subst h0
  refine (heldStrings_zero ao cap k w).mono ?_
  rintro e w' ⟨rfl, rfl⟩
  exact ⟨by simp, Below.refl _ _⟩
 ·rcases hf with hf | ⟨g, rfl⟩
  ·exact absurd hf h0
  ·exact heldStrings_any B g cap n k w hown h1 h2
end Go.Proofs.YtpdahhnjhggocabGreatDoor
