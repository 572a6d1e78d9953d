import Derived.Test.YtlaejmehgaeobabGreatDoorBase
namespace Go.Proofs.YtlaejmehgaeobabGreatDoor
open Go.RowKit
theorem add_off (g k : Nat) : (⟨g, 0, none⟩ : Addr).add k = ⟨g, k, none⟩ := by
  unfold Addr.add; split <;> simp_all
/-- A row that a slice shows: cells that can be read. -/
def HasRow (w : World) (v : Value) (n size : Nat) (xs : List Value) : Prop := xs.length = n * size ∧ ∃ ao cap, v = .slice ao n cap ∧ (n ≤ cap ∧ cap ≤ maxLen) ∧ (n = 0 ∨ ∃ b off, ao = some ⟨b, off, none⟩ ∧ ∀ j u, xs[j]? = some u → w.cell? ⟨b, off + j, none⟩ = some u)
theorem HasRow.below {w w' : World} {v : Value} {n size : Nat} {xs : List Value} (h : HasRow w v n size xs) (hb : Below w.heap.size w w') : HasRow w' v n size xs := by
  obtain ⟨hl, ao, cap, hv, hk, hc⟩ := h
  refine ⟨hl, ao, cap, hv, hk, ?_⟩
  rcases hc with h0 | ⟨b, off, ha, hc⟩
  · exact .inl h0
  · exact .inr ⟨b, off, ha, fun j u hj => (hb.cell (World.block_lt_of_cell? w _ (hc j u hj))).trans (hc j u hj)⟩
theorem own_has {w : World} {B : Nat} {e : TypeId} {size : Nat} {v : Value} {n : Nat} {xs : List Value} (h : w.ownsRow B e size v n xs) : HasRow w v n size xs := by
  refine ⟨h.1, ?_⟩
  have h2 := h.2
  rcases h2 with ⟨rfl, rfl⟩ | ⟨g, cap, cur, rfl, _, _, hk, hm, _⟩
  · exact ⟨none, 0, rfl, ⟨Nat.le_refl _, Nat.zero_le _⟩, .inl rfl⟩
  · refine ⟨some ⟨g, 0, none⟩, cap, rfl, ⟨hk, hm⟩, .inr ⟨g, 0, rfl, fun j u hj => ?_⟩⟩
    have := h.cells (g := g) rfl j u hj
    rw [add_off] at this
    rw [Nat.zero_add]; exact this
theorem HasRow.form {w : World} {v : Value} {n size : Nat} {xs : List Value} (h : HasRow w v n size xs) : ∃ ao cap, v = .slice ao n cap := by
  obtain ⟨_, ao, cap, hv, _⟩ := h; exact ⟨ao, cap, hv⟩
theorem HasRow.at {w : World} {ao : Option Addr} {n m cap size : Nat} {xs : List Value} (h : HasRow w (.slice ao m cap) n size xs) (h0 : 0 < n) : ∃ b off, ao = some ⟨b, off, none⟩ ∧ ∀ j u, xs[j]? = some u → w.cell? ⟨b, off + j, none⟩ = some u := by
  obtain ⟨_, ao', cap', hv, _, hc⟩ := h
  cases hv
  rcases hc with h1 | h1
  · omega
  · exact h1
theorem HasRow.cap {w : World} {ao : Option Addr} {n m cap size : Nat} {xs : List Value} (h : HasRow w (.slice ao m cap) n size xs) : n ≤ cap ∧ cap ≤ maxLen := by
  obtain ⟨_, ao', cap', hv, hk, _⟩ := h
  cases hv
  exact hk
/-- The first elements of a row. -/
theorem HasRow.take {w : World} {ao : Option Addr} {n cap size : Nat} {xs : List Value} (h : HasRow w (.slice ao n cap) n size xs) (k : Nat) (hk : k ≤ n) : HasRow w (.slice ao k cap) k size (xs.take (k * size)) := by
  obtain ⟨hl, ao', c', hv, hcap, hc⟩ := h
  cases hv
  refine ⟨?_, ao, cap, rfl, ⟨by omega, hcap.2⟩, ?_⟩
  · rw [List.length_take, hl]
    have : k * size ≤ n * size := Nat.mul_le_mul_right _ hk
    omega
  · rcases hc with h0 | ⟨b, off, ha, hc⟩
    · exact .inl (by omega)
    · refine .inr ⟨b, off, ha, fun j u hj => hc j u ?_⟩
      rw [List.getElem?_take] at hj
      split at hj
      · exact hj
      · cases hj
theorem HasRow.word {w : World} {ao : Option Addr} {n m cap : Nat} {ws : List (List UInt8)} (h : HasRow w (.slice ao m cap) n 1 (strs ws)) (j : Nat) (hj : j < ws.length) : ∃ b off, ao = some ⟨b, off, none⟩ ∧ w.cell? ⟨b, off + j, none⟩ = some (.string ⟨ws[j].toArray⟩) := by
  have hn : 0 < n := by have := h.1; rw [strs_length] at this; omega
  obtain ⟨b, off, ha, hc⟩ := h.at hn
  exact ⟨b, off, ha, hc j _ (strs_at ws j hj)⟩
end Go.Proofs.YtlaejmehgaeobabGreatDoor
