import Derived.Test.YtpdahhnjhggocabGreatDoorBun4
import Derived.Test.YtpdahhnjhggocabGreatDoorProg
import Derived.WalkKit
import Derived.WalkMore
import Derived.WalkSpells
import Derived.WalkLawsBesides
import Derived.LoopTactic
import Derived.Deep.RegionHeld3
import Derived.Deep.AppendLies
import Derived.Deep.QuietTactic
import Derived.BigQuiet
import Derived.WalkSmall
import Derived.Laws.OwnMore
import Derived.Laws.IdiomStrings
import Derived.Laws.BytesArg
import Derived.Laws.BitsLemmas
import Derived.Lib.Strings
import Derived.Lib.UnsafeStr
namespace Go.Proofs.YtpdahhnjhggocabGreatDoor
open Go.RowKit
theorem ret_int {k : IntKind} {a b : Int} (h : a = b) : Ending.returned (.int k a) = .returned (.int k b) := by rw [h]
theorem ret_val {a b : Value} (h : a = b) : Ending.returned a = .returned b := by rw [h]
theorem ret_bool {a b : Bool} (h : a = b) : Ending.returned (.bool a) = .returned (.bool b) := by rw [h]
theorem ret_str {a b : List UInt8} (h : a = b) : Ending.returned (.string ⟨a.toArray⟩) = .returned (.string ⟨b.toArray⟩) := by rw [h]
theorem bytes_drop (t : ByteArray) (k : Nat) : (t.extract k t.size).data.toList = t.data.toList.drop k := by
 rw [Lib.extract_data]; exact List.take_of_length_le (by simp)
theorem bytes_take (t : ByteArray) (k : Nat) : t.extract 0 k = ⟨(t.data.toList.take k).toArray⟩ := by
 apply ByteArray.ext; apply Array.toList_inj.1; rw [Lib.extract_data]; simp
theorem info5 : (Tryz.prog.info? 5).map (fun i => (i.zero, i.size, i.bytes)) = some (some (.int .u8 0), 1, 1) := by kernel_rfl
theorem news1 (w : World) (x : Value) (T : TypeId) : ∀ j u, [x][j]? = some u → (w.alloc (.cells #[x] T)).cell? ((⟨w.heap.size, 0, none⟩ : Addr).add j) = some u :=
 World.news_of_block (cs := #[x]) (t := T) (fr := (0, 0)) (heap_alloc_new w _)
theorem conv_own (w1 : World) (v : Value) (B : Nat) (l : List UInt8) (n : Nat) (h : w1.ownsRow B 5 1 v n (Lib.byteCells l)) :
  (convert 93 9 v).run Tryz.prog w1 = .ok (.string ⟨l.toArray⟩) w1 := by
 have hlen : l.length = n := by have := h.1; simpa [Lib.byteCells_length] using this
 subst hlen
 rcases h.2 with ⟨rfl, h0⟩ | ⟨g, cap, cur, rfl, hrest⟩
 ·have : l = [] := List.length_eq_zero_iff.1 h0
  subst this
  exact run_convert_bytes_nil w1 93 5 Tryz.underlying93 Tryz.underlying5 0 0 9 Tryz.underlying9
 ·refine run_convert_bytes_back w1 93 9 5 ⟨g, 0, none⟩ cap l Tryz.underlying93 Tryz.underlying5 Tryz.underlying9 fun j hj => ?_
  refine h.cells rfl j _ ?_
  simp only [Lib.byteCells, List.getElem?_map, List.getElem?_eq_getElem hj]; rfl
theorem own_drewN {w : World} {base : Nat} {e : TypeId} {size : Nat} {v : Value} {n : Nat} {xs : List Value} (h : w.ownsRow base e size v n xs) (k : Nat) : (w.drewN k).ownsRow base e size v n xs := by
 induction k with
 | zero => exact h
 | succ k ih => exact ih.drew
theorem own_setCell {w : World} {base : Nat} {e : TypeId} {size : Nat} {v : Value} {n : Nat} {xs : List Value} (h : w.ownsRow base e size v n xs) (p : Addr) (hp : p.block < base) (u : Value) : (w.setCell p u).ownsRow base e size v n xs := by
 refine ⟨h.1, ?_⟩
 rcases h.2 with h2 | ⟨g, cap, cur, hv, hb, hg, hrest⟩
 ·exact Or.inl h2
 ·exact Or.inr ⟨g, cap, cur, hv, hb, by rw [Below.heap_setCell _ _ _ _ (by omega)]; exact hg, hrest⟩
theorem own_mono {w : World} {base base' : Nat} {e : TypeId} {size : Nat} {v : Value} {n : Nat} {xs : List Value} (h : w.ownsRow base e size v n xs) (hb : base' ≤ base) : w.ownsRow base' e size v n xs := by
 refine ⟨h.1, ?_⟩
 rcases h.2 with h2 | ⟨g, cap, cur, hv, hg, hrest⟩
 ·exact Or.inl h2
 ·exact Or.inr ⟨g, cap, cur, hv, by omega, hrest⟩
theorem own_below {w w' : World} {base : Nat} {e : TypeId} {size : Nat} {v : Value} {n : Nat} {xs : List Value} (h : w.ownsRow base e size v n xs) (hb : Below w.heap.size w w') : w'.ownsRow base e size v n xs := by
 refine ⟨h.1, ?_⟩
 rcases h.2 with h2 | ⟨g, cap, cur, hv, hg, hh, hrest⟩
 ·exact Or.inl h2
 ·refine Or.inr ⟨g, cap, cur, hv, hg, ?_, hrest⟩
  rw [hb.block g ?_]
  ·exact hh
  ·exact (Array.getElem?_eq_some_iff.1 hh).1
theorem info9 : (Tryz.prog.info? 9).map (fun i => (i.zero, i.size, i.bytes)) = some (some (.string ⟨#[]⟩), 1, 16) := by kernel_rfl
theorem cat_bytes (a b : List UInt8) : (⟨a.toArray⟩ ++ ⟨b.toArray⟩ : ByteArray) = ⟨(a ++ b).toArray⟩ := by
 apply ByteArray.ext; simp
theorem conv_one (w : World) (c : UInt8) : (convert 93 9 (.slice (some ⟨w.heap.size, 0, none⟩) 1 1)).run Tryz.prog (w.alloc (.cells #[.int .u8 (c.toNat : Int)] 5)) = .ok (.string ⟨#[c]⟩) (w.alloc (.cells #[.int .u8 (c.toNat : Int)] 5)) :=
 conv_own _ _ w.heap.size [c] 1 (World.ownsRow_lit w #[.int .u8 (c.toNat : Int)] 1 (Nat.le_refl _) (by decide) rfl)
theorem grown_of_below {w w' : World} (h : Below w.heap.size w w') (row : Option Nat) : w.grownBy w' row := ⟨h.os, h.tape, h.output, h.size, fun i hi _ => h.block i hi⟩
theorem grown_trans {a b c : World} {row : Option Nat} (h : a.grownBy b row) (k : b.grownBy c row) : a.grownBy c row :=
 ⟨k.os.trans h.os, k.tape.trans h.tape, k.output.trans h.output, Nat.le_trans h.size k.size, fun i hi hne => (k.block i (Nat.lt_of_lt_of_le hi h.size) hne).trans (h.block i hi hne)⟩
theorem strs_at (ws : List (List UInt8)) (j : Nat) (h : j < ws.length) : (strs ws)[j]? = some (.string ⟨ws[j].toArray⟩) := by
 simp [strs, h]
theorem own_form {w : World} {base : Nat} {e : TypeId} {size : Nat} {v : Value} {n : Nat} {xs : List Value} (h : w.ownsRow base e size v n xs) : ∃ ao cap, v = .slice ao n cap ∧ (n = 0 ∨ ∃ g, ao = some ⟨g, 0, none⟩) := by
 rcases h.2 with ⟨rfl, rfl⟩ | ⟨g, cap, cur, rfl, _⟩
 ·exact ⟨none, 0, rfl, Or.inl rfl⟩
 ·exact ⟨_, _, rfl, Or.inr ⟨g, rfl⟩⟩
end Go.Proofs.YtpdahhnjhggocabGreatDoor
namespace Go.Proofs.YtpdahhnjhggocabGreatDoor
open Go.RowKit
structure MRow where
 v : Value
 e : TypeId
 size : Nat
 n : Nat
 xs : List Value
def MRow.isAt (r : MRow) (B : Nat) (w : World) : Prop := w.ownsRow B r.e r.size r.v r.n r.xs
def Mem (B : Nat) (w : World) (L : List MRow) : Prop := (∀ r ∈ L, r.isAt B w) ∧ L.Pairwise (fun r s => r.v.ownBlock = none ∨ r.v.ownBlock ≠ s.v.ownBlock)
theorem Mem.nil (B : Nat) (w : World) : Mem B w [] := ⟨by simp, by simp⟩
theorem Mem.kept {B : Nat} {w w' : World} {L : List MRow} (h : Mem B w L) (hg : w.grownBy w' none) : Mem B w' L :=
 ⟨fun r hr => World.ownsRow.kept (h.1 r hr) hg (by cases hv : r.v.ownBlock <;> simp), h.2⟩
theorem Mem.below {B : Nat} {w w' : World} {L : List MRow} (h : Mem B w L) (hb : Below w.heap.size w w') : Mem B w' L := h.kept (grown_of_below hb none)
theorem Mem.mono {B B' : Nat} {w : World} {L : List MRow} (h : Mem B w L) (hB : B' ≤ B) : Mem B' w L := ⟨fun r hr => own_mono (h.1 r hr) hB, h.2⟩
theorem Mem.lt {B : Nat} {w : World} {L : List MRow} (h : Mem B w L) {r : MRow} (hr : r ∈ L) {g : Nat} (hg : r.v.ownBlock = some g) : B ≤ g ∧ g < w.heap.size := World.ownsRow.lt (h.1 r hr) g hg
theorem Mem.join {B : Nat} {w w' : World} {L N : List MRow} (h : Mem B w L) (hN : Mem w.heap.size w' N) (hb : Below w.heap.size w w') (hB : B ≤ w.heap.size) : Mem B w' (N ++ L) := by
 have h' := h.below hb
 refine ⟨fun r hr => ?_, List.pairwise_append.2 ⟨hN.2, h.2, fun r hr s hs => ?_⟩⟩
 ·rcases List.mem_append.1 hr with h1 | h1
  ·exact own_mono (hN.1 r h1) hB
  ·exact h'.1 r h1
 ·cases hv : r.v.ownBlock with
  | none => exact Or.inl rfl
  | some g =>
   refine Or.inr fun e => ?_
   have h1 := (hN.lt hr hv).1
   have h2 := (h.lt hs e.symm).2
   omega
theorem Mem.cons {B : Nat} {w w' : World} {L : List MRow} {r : MRow} (h : Mem B w L) (hr : r.isAt w.heap.size w') (hb : Below w.heap.size w w') (hB : B ≤ w.heap.size) : Mem B w' (r :: L) :=
 h.join (N := [r]) ⟨fun s hs => by rw [List.mem_singleton.1 hs]; exact hr, by simp⟩ hb hB
theorem Mem.head {B : Nat} {w : World} {L : List MRow} {r : MRow} (h : Mem B w (r :: L)) : w.ownsRow B r.e r.size r.v r.n r.xs := h.1 r (by simp)
theorem Mem.tail {B : Nat} {w : World} {L : List MRow} {r : MRow} (h : Mem B w (r :: L)) : Mem B w L := ⟨fun s hs => h.1 s (by simp [hs]), (List.pairwise_cons.1 h.2).2⟩
theorem Mem.left {B : Nat} {w : World} {L N : List MRow} (h : Mem B w (N ++ L)) : Mem B w N := ⟨fun s hs => h.1 s (by simp [hs]), (List.pairwise_append.1 h.2).1⟩
theorem Mem.right {B : Nat} {w : World} {L N : List MRow} (h : Mem B w (N ++ L)) : Mem B w L := ⟨fun s hs => h.1 s (by simp [hs]), (List.pairwise_append.1 h.2).2.1⟩
theorem Mem.turn {B : Nat} {w w' : World} {L : List MRow} {r r' : MRow} (h : Mem B w (r :: L)) (hv : r'.v = r.v) (hr : r'.isAt B w') (hg : w.grownBy w' r.v.ownBlock) : Mem B w' (r' :: L) := by
 have hp := List.pairwise_cons.1 h.2
 refine ⟨fun s hs => ?_, List.pairwise_cons.2 ⟨fun s hs => by rw [hv]; exact hp.1 s hs, hp.2⟩⟩
 rcases List.mem_cons.1 hs with rfl | h1
 ·exact hr
 ·refine World.ownsRow.kept (h.1 s (by simp [h1])) hg ?_
  rcases hp.1 s h1 with h2 | h2
  ·cases hs' : s.v.ownBlock with
   | none => exact Or.inl rfl
   | some g => right; rw [h2]; simp
  ·exact Or.inr (fun e => h2 e.symm)
theorem Mem.perm {B : Nat} {w : World} {L N : List MRow} (h : Mem B w L) (hp : L.Perm N) : Mem B w N := by
 refine ⟨fun r hr => h.1 r (hp.mem_iff.2 hr), ?_⟩
 refine (hp.pairwise_iff ?_).1 h.2
 intro r s hrs
 rcases hrs with h1 | h1
 ·by_cases h2 : s.v.ownBlock = none
  ·exact Or.inl h2
  ·exact Or.inr (by rw [h1]; exact h2)
 ·exact Or.inr (Ne.symm h1)
def intsV (l : List Int) : List Value := l.map (Value.int .i64)
theorem intsV_length (l : List Int) : (intsV l).length = l.length := by simp [intsV]
end Go.Proofs.YtpdahhnjhggocabGreatDoor
namespace Go.Proofs.YtpdahhnjhggocabGreatDoor
open Go.RowKit
theorem add_off (g k : Nat) : (⟨g, 0, none⟩ : Addr).add k = ⟨g, k, none⟩ := by
 unfold Addr.add; split <;> simp_all
def HasRow (w : World) (v : Value) (n size : Nat) (xs : List Value) : Prop := xs.length = n * size ∧ ∃ ao cap, v = .slice ao n cap ∧ (n ≤ cap ∧ cap ≤ maxLen) ∧ (n = 0 ∨ ∃ b off, ao = some ⟨b, off, none⟩ ∧ ∀ j u, xs[j]? = some u → w.cell? ⟨b, off + j, none⟩ = some u)
theorem HasRow.below {w w' : World} {v : Value} {n size : Nat} {xs : List Value} (h : HasRow w v n size xs) (hb : Below w.heap.size w w') : HasRow w' v n size xs := by
 obtain ⟨hl, ao, cap, hv, hk, hc⟩ := h
 refine ⟨hl, ao, cap, hv, hk, ?_⟩
 rcases hc with h0 | ⟨b, off, ha, hc⟩
 ·exact .inl h0
 ·exact .inr ⟨b, off, ha, fun j u hj => (hb.cell (World.block_lt_of_cell? w _ (hc j u hj))).trans (hc j u hj)⟩
theorem own_has {w : World} {B : Nat} {e : TypeId} {size : Nat} {v : Value} {n : Nat} {xs : List Value} (h : w.ownsRow B e size v n xs) : HasRow w v n size xs := by
 refine ⟨h.1, ?_⟩
 have h2 := h.2
 rcases h2 with ⟨rfl, rfl⟩ | ⟨g, cap, cur, rfl, _, _, hk, hm, _⟩
 ·exact ⟨none, 0, rfl, ⟨Nat.le_refl _, Nat.zero_le _⟩, .inl rfl⟩
 ·refine ⟨some ⟨g, 0, none⟩, cap, rfl, ⟨hk, hm⟩, .inr ⟨g, 0, rfl, fun j u hj => ?_⟩⟩
  have := h.cells (g := g) rfl j u hj
  rw [add_off] at this
  rw [Nat.zero_add]; exact this
theorem HasRow.form {w : World} {v : Value} {n size : Nat} {xs : List Value} (h : HasRow w v n size xs) : ∃ ao cap, v = .slice ao n cap := by
 obtain ⟨_, ao, cap, hv, _⟩ := h; exact ⟨ao, cap, hv⟩
theorem HasRow.at {w : World} {ao : Option Addr} {n m cap size : Nat} {xs : List Value} (h : HasRow w (.slice ao m cap) n size xs) (h0 : 0 < n) : ∃ b off, ao = some ⟨b, off, none⟩ ∧ ∀ j u, xs[j]? = some u → w.cell? ⟨b, off + j, none⟩ = some u := by
 obtain ⟨_, ao', cap', hv, _, hc⟩ := h
 cases hv
 rcases hc with h1 | h1
 ·omega
 ·exact h1
theorem HasRow.cap {w : World} {ao : Option Addr} {n m cap size : Nat} {xs : List Value} (h : HasRow w (.slice ao m cap) n size xs) : n ≤ cap ∧ cap ≤ maxLen := by
 obtain ⟨_, ao', cap', hv, hk, _⟩ := h
 cases hv
 exact hk
theorem HasRow.take {w : World} {ao : Option Addr} {n cap size : Nat} {xs : List Value} (h : HasRow w (.slice ao n cap) n size xs) (k : Nat) (hk : k ≤ n) : HasRow w (.slice ao k cap) k size (xs.take (k * size)) := by
 obtain ⟨hl, ao', c', hv, hcap, hc⟩ := h
 cases hv
 refine ⟨?_, ao, cap, rfl, ⟨by omega, hcap.2⟩, ?_⟩
 ·rw [List.length_take, hl]
  have : k * size ≤ n * size := Nat.mul_le_mul_right _ hk
  omega
 ·rcases hc with h0 | ⟨b, off, ha, hc⟩
  ·exact .inl (by omega)
  ·refine .inr ⟨b, off, ha, fun j u hj => hc j u ?_⟩
   rw [List.getElem?_take] at hj
   split at hj
   ·exact hj
   ·cases hj
theorem HasRow.word {w : World} {ao : Option Addr} {n m cap : Nat} {ws : List (List UInt8)} (h : HasRow w (.slice ao m cap) n 1 (strs ws)) (j : Nat) (hj : j < ws.length) : ∃ b off, ao = some ⟨b, off, none⟩ ∧ w.cell? ⟨b, off + j, none⟩ = some (.string ⟨ws[j].toArray⟩) := by
 have hn : 0 < n := by have := h.1; rw [strs_length] at this; omega
 obtain ⟨b, off, ha, hc⟩ := h.at hn
 exact ⟨b, off, ha, hc j _ (strs_at ws j hj)⟩
end Go.Proofs.YtpdahhnjhggocabGreatDoor
