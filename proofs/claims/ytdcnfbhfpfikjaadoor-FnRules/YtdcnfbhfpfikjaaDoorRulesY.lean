import Derived.Test.YtdcnfbhfpfikjaaDoorRulesX
namespace Go.Proofs.YtdcnfbhfpfikjaaDoor
open Go.RowKit
/-- A line in a block of its own, at q; the reader's block is the first new one. -/
structure LX (k : Nat) (w : World) (q : Nat) (key : ByteArray) (xo : Option Addr) (xc : Nat) (ws : List (List UInt8)) (W : World) : Prop where
  rd : Rd w.heap.size W w.heap.size k
  b7 : W.heap[q]? = some (.cells #[.string key, .slice xo ws.length xc] 73 (0, 0))
  own : W.ownsRow (w.heap.size + 1) 9 1 (.slice xo ws.length xc) ws.length (strs ws)
  ne : ∀ g, (Value.slice xo ws.length xc).ownBlock = some g → g ≠ q
  kept : Below w.heap.size w W
  pq : w.heap.size < q
  few : ws.length ≤ 4
  small : ∀ x ∈ ws, x.length ≤ 201
theorem LX.big {k q xc : Nat} {w W : World} {key : ByteArray} {xo : Option Addr} {ws : List (List UInt8)} (h : LX k w q key xo xc ws W) : q < W.heap.size := (Array.getElem?_eq_some_iff.1 h.b7).1
theorem LX.picked {k k3 q xc : Nat} {w W W3 : World} {key : ByteArray} {xo : Option Addr} {ws : List (List UInt8)} (h : LX k w q key xo xc ws W) (g1 : W.grownBy W3 (some w.heap.size)) (r3 : Rd w.heap.size W3 w.heap.size k3) : LX k3 w q key xo xc ws W3 := by
  have hq := h.pq
  have K13 : Kept [w.heap.size] W W3 := Kept.of_grown g1 (fun g hg => by cases hg; simp)
  exact ⟨r3, K13.heap h.b7 (fun e => by have := List.mem_singleton.1 e; omega), Kept.own h.own K13 (fun g hg e => by have := (h.own.lt g hg).1; have := List.mem_singleton.1 e; omega), h.ne, below_of_grown h.kept h.kept.size (Nat.le_refl _) g1, hq, h.few, h.small⟩
theorem strs_set (ws : List (List UInt8)) (j : Nat) (u : ByteArray) : (strs ws).set j (.string u) = strs (ws.set j u.data.toList) := by
  unfold strs
  rw [List.map_set]
theorem LX.set {k q xc g : Nat} {w W : World} {key : ByteArray} {ws : List (List UInt8)} (h : LX k w q key (some ⟨g, 0, none⟩) xc ws W) (j : Nat) (u : ByteArray) (hu : u.size ≤ 201) :
    LX k w q key (some ⟨g, 0, none⟩) xc (ws.set j u.data.toList) (W.setCell ⟨g, j, none⟩ (.string u)) := by
  have hq := h.pq
  have hg := (h.own.lt g rfl).1
  have hne := h.ne g rfl
  obtain ⟨s1, s2⟩ := h.own.stored j (.string u)
  have K : Kept [g] W (W.setCell ⟨g, j, none⟩ (.string u)) := Kept.set _ _ _ _
  rw [strs_set] at s1
  refine ⟨Kept.rd h.rd K (fun i hi => by have := List.mem_singleton.1 hi; omega), ?_, by simpa using s1, by simpa using h.ne, below_of_grown h.kept h.kept.size (by omega) s2, hq, by simpa using h.few, ?_⟩
  · have := K.heap h.b7 (fun e => by have := List.mem_singleton.1 e; omega)
    simpa using this
  · intro x hx
    rcases List.mem_or_eq_of_mem_set hx with hx | rfl
    · exact h.small x hx
    · rw [Array.length_toList]; exact hu
theorem LX.key {k q xc : Nat} {w W : World} {key : ByteArray} {xo : Option Addr} {ws : List (List UInt8)} (h : LX k w q key xo xc ws W) (u : ByteArray) : LX k w q u xo xc ws (W.setCell ⟨q, 0, none⟩ (.string u)) := by
  have hq := h.pq
  have K : Kept [q] W (W.setCell ⟨q, 0, none⟩ (.string u)) := Kept.set _ _ _ _
  refine ⟨Kept.rd h.rd K (fun i hi => by have := List.mem_singleton.1 hi; omega), ?_, Kept.own h.own K (fun g hg e => h.ne g hg (List.mem_singleton.1 e)), h.ne, h.kept.setCell (by simp; omega) _, hq, h.few, h.small⟩
  have := heap_setCell_same W q 0 _ _ (.string u) h.b7
  simpa using this
theorem LX.more {k q xc g3 cap3 : Nat} {w W W4 : World} {key u : ByteArray} {xo : Option Addr} {ws : List (List UInt8)} (h : LX k w q key xo xc ws W) (h3 : ws.length ≤ 3) (hu : u.size ≤ 201) (g2 : (W.alloc (.cells #[.string u] 9)).grownBy W4 (Value.slice xo ws.length xc).ownBlock)
    (o4 : W4.ownsRow (w.heap.size + 1) 9 1 (.slice (some ⟨g3, 0, none⟩) (ws.length + 1) cap3) (ws.length + 1) (strs ws ++ [.string u])) (hat : (Value.slice xo ws.length xc).ownBlock = some g3 ∨ g3 = W.heap.size + 1) :
    LX k w q key (some ⟨g3, 0, none⟩) cap3 (ws ++ [u.data.toList]) (W4.setCell ⟨q, 1, none⟩ (.slice (some ⟨g3, 0, none⟩) (ws.length + 1) cap3)) := by
  have hq := h.pq
  have hb := h.big
  have hlt := h.own.lt
  have KA : Kept (Value.slice xo ws.length xc).ownBlock.toList W W4 := (Kept.of_below ((Below.refl _ _).alloc (Nat.le_refl _) _)).trans (Kept.of_grown g2 (fun g hg => by rw [hg]; simp))
  have hS : ∀ i ∈ (Value.slice xo ws.length xc).ownBlock.toList, w.heap.size + 1 ≤ i ∧ i ≠ q := fun i hi => ⟨(hlt i (by simpa using hi)).1, h.ne i (by simpa using hi)⟩
  have KB : Kept [q] W4 (W4.setCell ⟨q, 1, none⟩ (.slice (some ⟨g3, 0, none⟩) (ws.length + 1) cap3)) := Kept.set _ _ _ _
  have h7 := KA.heap h.b7 (fun e => (hS _ e).2 rfl)
  have hg3 : g3 ≠ q := by
    rcases hat with h1 | h1
    · exact h.ne g3 h1
    · omega
  refine ⟨Kept.rd (Kept.rd h.rd KA (fun i hi => by have := (hS i hi).1; omega)) KB (fun i hi => by have := List.mem_singleton.1 hi; omega), ?_, ?_, fun g hg => by cases hg; exact hg3, ?_, hq, by simp; omega, ?_⟩
  · have := heap_setCell_same W4 q 1 _ _ (.slice (some ⟨g3, 0, none⟩) (ws.length + 1) cap3) h7
    simpa using this
  · have := Kept.own o4 KB (fun g hg e => by cases hg; exact hg3 (List.mem_singleton.1 e))
    simpa [strs] using this
  · have bA : Below w.heap.size w W4 := (h.kept.alloc h.kept.size _).grown g2 (by simp; omega) (fun g hg => by have := (hlt g hg).1; omega)
    exact bA.setCell (by simp; omega) _
  · intro x hx
    rcases List.mem_append.1 hx with hx | hx
    · exact h.small x hx
    · rw [List.mem_singleton.1 hx, Array.length_toList]; exact hu
/-- What is drawn: a kind, a key, words in a row of their own. -/
def FitsDrawn (w : World) (e : Ending) (w' : World) : Prop :=
  ∃ (kind key : ByteArray) (xo : Option Addr) (xc : Nat) (ws : List (List UInt8)), e = .returned (.tuple #[.string kind, .string key, .slice xo ws.length xc]) ∧ w'.ownsRow (w.heap.size + 1) 9 1 (.slice xo ws.length xc) ws.length (strs ws) ∧ ws.length ≤ 4 ∧ (∀ x ∈ ws, x.length ≤ 201) ∧ Below w.heap.size w w'
theorem LX.out {k q xc : Nat} {w W : World} {key : ByteArray} {xo : Option Addr} {ws : List (List UInt8)} (h : LX k w q key xo xc ws W) (kind : ByteArray) : FitsDrawn w (.returned (.tuple #[.string kind, .string key, .slice xo ws.length xc])) W :=
  ⟨kind, key, xo, xc, ws, rfl, h.own, h.few, h.small, h.kept⟩
theorem kinds_some (u : ByteArray) (h : u ∈ ([⟨#[116, 101, 97, 109]⟩, ⟨#[98, 101, 114, 116, 104]⟩, ⟨#[115, 101, 114, 118, 105, 99, 101]⟩] : List ByteArray)) : 1 ≤ (rulesOf u).length := by
  simp only [List.mem_cons, List.not_mem_nil, or_false] at h
  rcases h with rfl | rfl | rfl <;> simp [rulesOf, ByteArray.toList_eq, teamRules, berthRules, serviceRules]
end Go.Proofs.YtdcnfbhfpfikjaaDoor
