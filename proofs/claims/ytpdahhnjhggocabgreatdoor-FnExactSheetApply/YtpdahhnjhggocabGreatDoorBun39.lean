import Derived.Test.YtpdahhnjhggocabGreatDoorBun37
import Derived.Test.YtpdahhnjhggocabGreatDoorBun27
import Derived.Shelf.Abstract
namespace Go.Proofs.YtpdahhnjhggocabGreatDoor
open Go.RowKit
theorem lineWeak (R : List Plain) : Weak (fun a b : LAt => lineCmp R a.plain b.plain) := by
 refine ⟨fun x => ?_, fun x y z h k => ?_, fun x y z h k q => ?_⟩
 ·rw [lineCmp_lt]; exact lineLt_irr R _
 ·rw [lineCmp_lt] at *; exact lineLt_trans R _ _ _ h k
 ·rw [lineCmp_lt, lineLt_iff] at *
  simp only [not_or, not_and] at h k
  have e1 : placeI R y.plain.key = placeI R x.plain.key := by omega
  have e2 : placeI R z.plain.key = placeI R y.plain.key := by omega
  have q' : x.plain.ws < z.plain.ws := by
   rcases q with q | q
   ·omega
   ·exact q.2
  have h' := h.2 e1.symm
  have k' := k.2 e2.symm
  by_cases hyx : y.plain.ws < x.plain.ws
  ·exact k' (Tot.trans _ _ _ hyx q')
  ·have := Tot.tri _ _ h' hyx
   rw [← this] at k'
   exact k' q'
theorem sortLines_any {B g : Nat} {v vr : Value} {L : List RAt} {ls : List LAt} {w : World} (hrow : w.ownsRow B 82 2 v ls.length (ls.flatMap LAt.cells)) (hl : L.length ≤ 12) (hr : RulesIn w vr L) (hg : w.cell? ⟨g, 0, none⟩ = some vr) (hin : ∀ x ∈ ls, LineIn w x ∧ x.ws.length ≤ 1048576)
  (hfar : ∀ q, v.ownBlock = some q → FarV q vr L.length ∧ g ≠ q ∧ ∀ x ∈ ls, FarV q x.v x.ws.length) (hlen : ls.length ≤ 1048577) :
  Calls Tryz.prog 52 #[v, .func (.func 117) #[] #[.pointer (some ⟨g, 0, none⟩)]] w fun e w' => e = .returned (.tuple #[]) ∧ ∃ ls' : List LAt, ls'.Perm ls ∧ w'.ownsRow B 82 2 v ls.length (ls'.flatMap LAt.cells) ∧ (∀ i j : Nat, i < j → ∀ a b, ls'[i]? = some a → ls'[j]? = some b → lineLt (L.map RAt.plain) b.plain a.plain = false) ∧ w.grownBy w' v.ownBlock := by
 have H := sortRow_any laysSortL (β := LAt) 2 Tryz.isAgg82 Tryz.sizeOf82 LAt.cells LAt.len (fun x => x ∈ ls) (fun x hx u hu => by
   obtain ⟨a, c, e⟩ := HasRow.form (hin x hx).1
   simp only [LAt.cells, List.mem_cons, List.not_mem_nil, or_false] at hu
   rcases hu with rfl | rfl
   ·rfl
   ·rw [e]; rfl) (fun a b => lineCmp (L.map RAt.plain) a.plain b.plain) (lineWeak _) 117 #[.pointer (some ⟨g, 0, none⟩)] (enters_of Tryz.func117 (by kernel_rfl) rfl) hrow (fun x hx => hx)
  (fun q hq W hW x y hx hy => by
    obtain ⟨f1, f2, f3⟩ := hfar q hq
    have hr' : RulesIn W vr L := ⟨hr.1.far f1 hW, hr.2⟩
    have hg' : W.cell? ⟨g, 0, none⟩ = some vr := (hW.cell_far ⟨g, 0, none⟩ (World.block_lt_of_cell? w _ hg) (by intro e; cases e; exact f2 rfl)).trans hg
    exact lineOrder_any x.plain y.plain g hr' hl hg' ((hin x hx).1.far (f3 x hx) hW) ((hin y hy).1.far (f3 y hy) hW) (hin x hx).2 (hin y hy).2) hlen
 refine H.mono fun e w' ⟨he, ys, h1, h2, h3, h4⟩ => ⟨he, ys, h1, h2, fun i j hij a b ha hb => ?_, h4⟩
 rw [← Bool.not_eq_true, ← lineCmp_lt]
 exact h3 i j hij a b ha hb
end Go.Proofs.YtpdahhnjhggocabGreatDoor
