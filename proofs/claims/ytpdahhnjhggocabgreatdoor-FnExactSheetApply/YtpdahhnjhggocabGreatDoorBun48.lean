import Derived.Test.YtpdahhnjhggocabGreatDoorBun45
import Derived.Test.YtpdahhnjhggocabGreatDoorBun41
namespace Go.Proofs.YtpdahhnjhggocabGreatDoor
open Go.RowKit Go.ChangeShapes Go.WideShapes
section
variable {H : Type} {enc : TypeId × Value → H} {W : World} {base : Nat} {spare : Nat → Bool} {held : Bool} {fuel : Nat} {cs : List Value} {x : DataW H × List MemPlace}
theorem trod_struct5 {t : TypeId} {f0 f1 f2 f3 f4 : Field} (ht : Tryz.prog.underlying t = some (.struct #[f0, f1, f2, f3, f4])) (h : DataW.trod enc Tryz.prog W base spare held fuel t cs = some x) :
  ∃ y0 y1 y2 y3 y4 n, cs.length = Tryz.prog.cellsOf t ∧ DataW.trod enc Tryz.prog W base spare held n f0.type ((cs.drop f0.offset).take (Tryz.prog.cellsOf f0.type)) = some y0 ∧ DataW.trod enc Tryz.prog W base spare held n f1.type ((cs.drop f1.offset).take (Tryz.prog.cellsOf f1.type)) = some y1 ∧ DataW.trod enc Tryz.prog W base spare held n f2.type ((cs.drop f2.offset).take (Tryz.prog.cellsOf f2.type)) = some y2 ∧ DataW.trod enc Tryz.prog W base spare held n f3.type ((cs.drop f3.offset).take (Tryz.prog.cellsOf f3.type)) = some y3 ∧ DataW.trod enc Tryz.prog W base spare held n f4.type ((cs.drop f4.offset).take (Tryz.prog.cellsOf f4.type)) = some y4 := by
 obtain ⟨xs, n, _, rfl, hl, hlen, hf⟩ := DataW.trod_struct ht h
 match xs, hlen with
 | [y0, y1, y2, y3, y4], _ => exact ⟨y0, y1, y2, y3, y4, n, hl, by simpa using hf 0 f0 rfl, by simpa using hf 1 f1 rfl, by simpa using hf 2 f2 rfl, by simpa using hf 3 f3 rfl, by simpa using hf 4 f4 rfl⟩
set_option maxRecDepth 100000 in
theorem change_of (h : DataW.trod enc Tryz.prog W base spare held fuel 142 cs = some x) : ∃ la : CAt, cs = la.cells ∧ LinesIn W la.v la.ls ∧ ChangeWide la := by
 obtain ⟨y0, y1, y2, y3, y4, n, hl, h0, h1, h2, h3, h4⟩ := trod_struct5 Tryz.underlying142 h
 rw [show Tryz.prog.cellsOf 142 = 5 by kernel_rfl] at hl
 match cs, hl with
 | [c0, c1, c2, c3, c4], _ =>
  rw [show Tryz.prog.cellsOf 3 = 1 by kernel_rfl] at h0
  rw [show Tryz.prog.cellsOf 9 = 1 by kernel_rfl] at h1 h2 h3
  rw [show Tryz.prog.cellsOf 140 = 1 by kernel_rfl] at h4
  obtain ⟨m, e0, _, _⟩ := DataW.trod_int Tryz.underlying3 h0
  obtain ⟨s, e1, _, hs⟩ := DataW.trod_string Tryz.underlying9 h1
  obtain ⟨r, e2, _, hr⟩ := DataW.trod_string Tryz.underlying9 h2
  obtain ⟨q, e3, _, hq⟩ := DataW.trod_string Tryz.underlying9 h3
  obtain ⟨v, ls, e4, hin, hw⟩ := lines_of h4
  simp at e0 e1 e2 e3 e4
  subst e0 e1 e2 e3 e4
  refine ⟨⟨m, s, r, q, c4, ls⟩, rfl, hin, ?_, ?_, ?_, hw⟩
  ·unfold maxLen at hs
   show s.size ≤ _
   omega
  ·unfold maxLen at hr
   show r.size ≤ _
   omega
  ·unfold maxLen at hq
   show q.size ≤ _
   omega
set_option maxRecDepth 100000 in
theorem changes_of (h : DataW.trod enc Tryz.prog W base spare held fuel 53 cs = some x) : ∃ v ls, cs = [v] ∧ ChangesIn W v ls ∧ ChangesWide ls := by
 rcases DataW.trod_slice Tryz.underlying53 h with ⟨rfl, _⟩ | ⟨a, len, cap, elems, rest, n, _, rfl, _, hb, hl, hm, hlen, hel, _, _⟩
 ·exact ⟨_, [], rfl, ⟨⟨rfl, none, 0, rfl, ⟨Nat.le_refl _, Nat.zero_le _⟩, .inl rfl⟩, by simp⟩, by intro x hx; simp at hx⟩
 ·rw [show Tryz.prog.cellsOf 142 = 5 by kernel_rfl] at hel
  obtain ⟨ls, hll, hp⟩ := exists_list (fun i (la : CAt) => W.cells? base (a.add (i * 5)) 5 = some la.cells ∧ LinesIn W la.v la.ls ∧ ChangeWide la) len (fun i hi => by
   have h1 := hel i hi
   rw [List.getElem?_eq_getElem (by omega), Option.bind_eq_some_iff] at h1
   obtain ⟨cs', hcs, ht⟩ := h1
   obtain ⟨la, rfl, h2, h3⟩ := change_of ht
   exact ⟨la, hcs, h2, h3⟩)
  refine ⟨_, ls, rfl, ⟨⟨by rw [rowF_len _ 5 CAt.len], some a, cap, by rw [hll], ⟨by rw [hll]; exact hl, hm⟩, ?_⟩, fun x hx => ?_⟩, fun x hx => ?_⟩
  ·by_cases h0 : len = 0
   ·left; omega
   ·right
    obtain ⟨b, off, rfl, hc⟩ := row_of CAt.cells 5 (by decide) CAt.len (show ls.length ≠ 0 by omega) (fun i r hi => (hp i r hi).1)
    exact ⟨b, off, rfl, hc⟩
  ·obtain ⟨i, hi, rfl⟩ := List.mem_iff_getElem.1 hx
   exact (hp i _ (List.getElem?_eq_getElem hi)).2.1
  ·obtain ⟨i, hi, rfl⟩ := List.mem_iff_getElem.1 hx
   exact (hp i _ (List.getElem?_eq_getElem hi)).2.2
end
end Go.Proofs.YtpdahhnjhggocabGreatDoor
