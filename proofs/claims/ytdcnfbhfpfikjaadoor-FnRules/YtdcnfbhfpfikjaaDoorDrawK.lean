import Derived.Test.YtdcnfbhfpfikjaaDoorDrawB
namespace Go.Proofs.YtdcnfbhfpfikjaaDoor
open Go.RowKit
/-- What the walk is told of a code: it is short, and its bytes lie below B. -/
def Code (B : Nat) (w : World) (a : Option Addr) (len cap : Nat) : Prop :=
  len ≤ 1048576 ∧ len ≤ cap ∧ cap ≤ 9223372036854775807 ∧ (len = 0 ∨ ∃ b off, a = some ⟨b, off, none⟩ ∧ b < B ∧ ∀ i, i < len → ∃ z : Nat, z < 256 ∧ w.cell? ⟨b, off + i, none⟩ = some (.int .u8 (z : Int)))
theorem below_of_grown {B p : Nat} {a w w' : World} (h : Below B a w) (hB : B ≤ w.heap.size) (hp : B ≤ p) (g : w.grownBy w' (some p)) : Below B a w' :=
  h.grown g hB (fun k hk => by simp at hk; omega)
theorem Code.below {B B' : Nat} {w w' : World} {a : Option Addr} {len cap : Nat} (h : Code B w a len cap) (hb : Below B w w') (hB : B ≤ B') : Code B' w' a len cap := by
  refine ⟨h.1, h.2.1, h.2.2.1, ?_⟩
  rcases h.2.2.2 with h0 | ⟨b, off, ha, hb1, hc⟩
  · exact Or.inl h0
  · exact Or.inr ⟨b, off, ha, by omega, fun i hi => by obtain ⟨z, hz, hcl⟩ := hc i hi; exact ⟨z, hz, by rw [hb.cell (by simp; omega)]; exact hcl⟩⟩
end Go.Proofs.YtdcnfbhfpfikjaaDoor
