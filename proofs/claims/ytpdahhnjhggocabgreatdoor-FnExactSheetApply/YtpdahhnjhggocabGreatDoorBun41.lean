import Derived.Test.YtpdahhnjhggocabGreatDoorBun26
import Derived.SliceStrings
import Derived.ChangeSame
import Derived.ChangeArms
import Derived.DataReads
import Derived.Deep.Strs
import Derived.OpenShut
namespace Go.Proofs.YtpdahhnjhggocabGreatDoor
open Go.RowKit Go.ChangeShapes Go.WideShapes
section
variable {H : Type} {enc : TypeId × Value → H} {W : World} {base : Nat} {spare : Nat → Bool} {held : Bool} {fuel : Nat} {cs : List Value} {x : DataW H × List MemPlace}
theorem words_of (h : DataW.trod enc Tryz.prog W base spare held fuel 61 cs = some x) : ∃ v ws, cs = [v] ∧ HasRow W v ws.length 1 (strs ws) ∧ WordsWide ws := by
 rcases open_strings Tryz.underlying61 Tryz.underlying9 (by kernel_rfl) h with ⟨rfl, _⟩ | ⟨a, len, cap, ss, rfl, _, hl, hm, hz, _, hcell, hwz⟩
 ·exact ⟨_, [], rfl, ⟨rfl, none, 0, rfl, ⟨Nat.le_refl _, Nat.zero_le _⟩, .inl rfl⟩, by intro x hx; simp at hx⟩
 ·have hn : len ≤ ss.length := by rw [hz]; split <;> omega
  have el : ((ss.take len).map fun s => s.data.toList).length = len := by simp; omega
  refine ⟨_, (ss.take len).map fun s => s.data.toList, rfl, ⟨by rw [strs_length]; simp, some a, cap, by rw [el], ⟨by rw [el]; exact hl, hm⟩, ?_⟩, ?_⟩
  ·by_cases h0 : len = 0
   ·left; rw [el]; exact h0
   ·right
    obtain ⟨b, off, spot⟩ := a
    have hspot : spot = none := by simpa [Addr.add] using World.cell?_spot (hcell 0 (by omega))
    subst hspot
    refine ⟨b, off, rfl, fun j u hj => ?_⟩
    have hjl : j < len := by have := (List.getElem?_eq_some_iff.1 hj).1; rw [strs_length, el] at this; exact this
    rw [← add_plain, hcell j (by omega), ← hj]
    simp [strs, List.getD, show j < ss.length by omega, hjl]
  ·intro y hy
   obtain ⟨s, hs, rfl⟩ := List.mem_map.1 hy
   have := hwz s (List.mem_of_mem_take hs)
   unfold maxLen at this
   simp only [Array.length_toList, ByteArray.size_data]
   omega
theorem rowF_get {α : Type} (f : α → List Value) (k : Nat) (hk : 0 < k) (hf : ∀ x, (f x).length = k) (L : List α) (j : Nat) (u : Value) (h : (L.flatMap f)[j]? = some u) : ∃ r, L[j / k]? = some r ∧ (f r)[j % k]? = some u := by
 have hj := (List.getElem?_eq_some_iff.1 h).1
 rw [rowF_len f k hf] at hj
 have hi : j / k < L.length := (Nat.div_lt_iff_lt_mul hk).2 hj
 obtain ⟨D, r, T, rfl, hD⟩ := split1 L (j / k) hi
 refine ⟨r, by rw [← hD]; simp, ?_⟩
 have e : j = D.length * k + j % k := by rw [hD, Nat.mul_comm]; exact (Nat.div_add_mod j k).symm
 rw [e, rowF_at f k hf D T r (j % k) (Nat.mod_lt _ hk)] at h
 exact h
theorem row_of {α : Type} (f : α → List Value) (k : Nat) (hk : 0 < k) (hf : ∀ x, (f x).length = k) {w : World} {b0 : Nat} {a : Addr} {L : List α} (hL : L.length ≠ 0) (h : ∀ i r, L[i]? = some r → w.cells? b0 (a.add (i * k)) k = some (f r)) : ∃ b off, a = ⟨b, off, none⟩ ∧ ∀ j u, (L.flatMap f)[j]? = some u → w.cell? ⟨b, off + j, none⟩ = some u := by
 have hr0 := h 0 L[0] (List.getElem?_eq_getElem (by omega))
 have hc0 := (World.cells?_some hr0).2.2 0 hk
 obtain ⟨b, off, spot⟩ := a
 have hspot : spot = none := by
  rw [List.getElem?_eq_getElem (by rw [hf]; exact hk)] at hc0
  simpa [Addr.add] using World.cell?_spot hc0
 subst hspot
 refine ⟨b, off, rfl, fun j u hj => ?_⟩
 obtain ⟨r, hr, hu⟩ := rowF_get f k hk hf L j u hj
 have hc := (World.cells?_some (h _ r hr)).2.2 (j % k) (Nat.mod_lt _ hk)
 rw [add_plain, add_plain, hu] at hc
 rw [← hc]
 congr 2
 have := Nat.div_add_mod j k
 rw [Nat.mul_comm] at this
 omega
theorem exists_list {α : Type} (p : Nat → α → Prop) (n : Nat) (h : ∀ i, i < n → ∃ a, p i a) : ∃ l : List α, l.length = n ∧ ∀ i a, l[i]? = some a → p i a := by
 induction n with
 | zero => exact ⟨[], rfl, by simp⟩
 | succ n ih =>
  obtain ⟨l, hl, hp⟩ := ih (fun i hi => h i (by omega))
  obtain ⟨a, ha⟩ := h n (by omega)
  refine ⟨l ++ [a], by simp [hl], fun i b hb => ?_⟩
  by_cases hi : i < l.length
  ·rw [List.getElem?_append_left hi] at hb; exact hp i b hb
  ·have hi2 := (List.getElem?_eq_some_iff.1 hb).1
   simp at hi2
   have e : i = l.length := by omega
   subst e
   rw [List.getElem?_append_right (Nat.le_refl _), Nat.sub_self] at hb
   cases hb
   rw [hl]; exact ha
set_option maxRecDepth 100000 in
theorem line_of (h : DataW.trod enc Tryz.prog W base spare held fuel 290 cs = some x) : ∃ la : LAt, cs = la.cells ∧ LineIn W la ∧ LineWide la := by
 obtain ⟨y0, y1, n, _, hl, h0, h1⟩ := trod_struct2 Tryz.underlying290 h
 rw [show Tryz.prog.cellsOf 290 = 2 by kernel_rfl] at hl
 match cs, hl with
 | [c0, c1], _ =>
  rw [show Tryz.prog.cellsOf 9 = 1 by kernel_rfl] at h0
  rw [show Tryz.prog.cellsOf 61 = 1 by kernel_rfl] at h1
  obtain ⟨s, e0, _, hs⟩ := DataW.trod_string Tryz.underlying9 h0
  obtain ⟨v, ws, e1, hr, hw⟩ := words_of h1
  simp at e0 e1
  subst e0 e1
  refine ⟨⟨s, c1, ws⟩, rfl, hr, ?_, hw⟩
  unfold maxLen at hs
  show s.size ≤ _
  omega
set_option maxRecDepth 100000 in
theorem lines_of (h : DataW.trod enc Tryz.prog W base spare held fuel 140 cs = some x) : ∃ v ls, cs = [v] ∧ LinesIn W v ls ∧ LinesWide ls := by
 rcases DataW.trod_slice Tryz.underlying140 h with ⟨rfl, _⟩ | ⟨a, len, cap, elems, rest, n, _, rfl, _, hb, hl, hm, hlen, hel, _, _⟩
 ·exact ⟨_, [], rfl, ⟨⟨rfl, none, 0, rfl, ⟨Nat.le_refl _, Nat.zero_le _⟩, .inl rfl⟩, by simp⟩, by intro x hx; simp at hx⟩
 ·rw [show Tryz.prog.cellsOf 290 = 2 by kernel_rfl] at hel
  obtain ⟨ls, hll, hp⟩ := exists_list (fun i (la : LAt) => W.cells? base (a.add (i * 2)) 2 = some la.cells ∧ LineIn W la ∧ LineWide la) len (fun i hi => by
   have h1 := hel i hi
   rw [List.getElem?_eq_getElem (by omega), Option.bind_eq_some_iff] at h1
   obtain ⟨cs', hcs, ht⟩ := h1
   obtain ⟨la, rfl, h2, h3⟩ := line_of ht
   exact ⟨la, hcs, h2, h3⟩)
  refine ⟨_, ls, rfl, ⟨⟨by rw [rowF_len _ 2 LAt.len], some a, cap, by rw [hll], ⟨by rw [hll]; exact hl, hm⟩, ?_⟩, fun x hx => ?_⟩, fun x hx => ?_⟩
  ·by_cases h0 : len = 0
   ·left; omega
   ·right
    obtain ⟨b, off, rfl, hc⟩ := row_of LAt.cells 2 (by decide) LAt.len (show ls.length ≠ 0 by omega) (fun i r hi => (hp i r hi).1)
    exact ⟨b, off, rfl, hc⟩
  ·obtain ⟨i, hi, rfl⟩ := List.mem_iff_getElem.1 hx
   exact (hp i _ (List.getElem?_eq_getElem hi)).2.1
  ·obtain ⟨i, hi, rfl⟩ := List.mem_iff_getElem.1 hx
   exact (hp i _ (List.getElem?_eq_getElem hi)).2.2
set_option maxRecDepth 100000 in
theorem block_of (h : DataW.trod enc Tryz.prog W base spare held fuel 189 cs = some x) : ∃ la : BAt, cs = la.cells ∧ BlockIn W la ∧ BlockWide la := by
 obtain ⟨y0, y1, y2, n, _, hl, h0, h1, h2⟩ := Deep.trod_struct3 Tryz.underlying189 h
 rw [show Tryz.prog.cellsOf 189 = 3 by kernel_rfl] at hl
 match cs, hl with
 | [c0, c1, c2], _ =>
  rw [show Tryz.prog.cellsOf 9 = 1 by kernel_rfl] at h0 h1
  rw [show Tryz.prog.cellsOf 140 = 1 by kernel_rfl] at h2
  obtain ⟨s, e0, _, hs⟩ := DataW.trod_string Tryz.underlying9 h0
  obtain ⟨r, e1, _, hr⟩ := DataW.trod_string Tryz.underlying9 h1
  obtain ⟨v, ls, e2, hin, hw⟩ := lines_of h2
  simp at e0 e1 e2
  subst e0 e1 e2
  refine ⟨⟨s, r, c2, ls⟩, rfl, hin, ?_, ?_, hw⟩
  ·unfold maxLen at hs
   show s.size ≤ _
   omega
  ·unfold maxLen at hr
   show r.size ≤ _
   omega
set_option maxRecDepth 100000 in
theorem blocks_of (h : DataW.trod enc Tryz.prog W base spare held fuel 33 cs = some x) : ∃ v ls, cs = [v] ∧ BlocksIn W v ls ∧ BlocksWide ls := by
 rcases DataW.trod_slice Tryz.underlying33 h with ⟨rfl, _⟩ | ⟨a, len, cap, elems, rest, n, _, rfl, _, hb, hl, hm, hlen, hel, _, _⟩
 ·exact ⟨_, [], rfl, ⟨⟨rfl, none, 0, rfl, ⟨Nat.le_refl _, Nat.zero_le _⟩, .inl rfl⟩, by simp⟩, by intro x hx; simp at hx⟩
 ·rw [show Tryz.prog.cellsOf 189 = 3 by kernel_rfl] at hel
  obtain ⟨ls, hll, hp⟩ := exists_list (fun i (la : BAt) => W.cells? base (a.add (i * 3)) 3 = some la.cells ∧ BlockIn W la ∧ BlockWide la) len (fun i hi => by
   have h1 := hel i hi
   rw [List.getElem?_eq_getElem (by omega), Option.bind_eq_some_iff] at h1
   obtain ⟨cs', hcs, ht⟩ := h1
   obtain ⟨la, rfl, h2, h3⟩ := block_of ht
   exact ⟨la, hcs, h2, h3⟩)
  refine ⟨_, ls, rfl, ⟨⟨by rw [rowF_len _ 3 BAt.len], some a, cap, by rw [hll], ⟨by rw [hll]; exact hl, hm⟩, ?_⟩, fun x hx => ?_⟩, fun x hx => ?_⟩
  ·by_cases h0 : len = 0
   ·left; omega
   ·right
    obtain ⟨b, off, rfl, hc⟩ := row_of BAt.cells 3 (by decide) BAt.len (show ls.length ≠ 0 by omega) (fun i r hi => (hp i r hi).1)
    exact ⟨b, off, rfl, hc⟩
  ·obtain ⟨i, hi, rfl⟩ := List.mem_iff_getElem.1 hx
   exact (hp i _ (List.getElem?_eq_getElem hi)).2.1
  ·obtain ⟨i, hi, rfl⟩ := List.mem_iff_getElem.1 hx
   exact (hp i _ (List.getElem?_eq_getElem hi)).2.2
set_option maxRecDepth 100000 in
theorem sheet_of {c0 : Value} (h : DataW.trod enc Tryz.prog W base spare held fuel 35 [c0] = some x) : ∃ bs, BlocksIn W c0 bs ∧ BlocksWide bs := by
 obtain ⟨y0, n, _, _, h1⟩ := trod_struct1 Tryz.underlying35 h
 rw [show Tryz.prog.cellsOf 33 = 1 by kernel_rfl] at h1
 obtain ⟨v, bs, e, hb, hw⟩ := blocks_of h1
 simp at e
 subst e
 exact ⟨bs, hb, hw⟩
theorem one_of {cs : Array Value} (h : cs.size = 1) : ∃ c0, cs = #[c0] := by
 obtain ⟨l⟩ := cs
 match l, h with
 | [c0], _ => exact ⟨c0, rfl⟩
end
end Go.Proofs.YtpdahhnjhggocabGreatDoor
