import Derived.Test.YtpdahhnjhggocabGreatDoorBun34
import Derived.Test.YtpdahhnjhggocabGreatDoorBun27
import Derived.Shelf.Abstract
namespace Go.Proofs.YtpdahhnjhggocabGreatDoor
open Go.RowKit
theorem lineWeak (R : List Plain) : Weak (fun a b : LAt => lineCmp R a.plain b.plain) := by
 refine ⟨fun x => ?_, fun x y z h k => ?_, fun x y z h k q => ?_⟩
 ·rw [lineCmp_lt]; exact lineLt_irr R _
 ·rw [lineCmp_lt] at *; exact lineLt_trans R _ _ _ h k
 ·rw [lineCmp_lt, lineLt_iff] at *
  simp only [not_or, not_and] at h k
  have e1 : placeI R y.plain.key = placeI R x.plain.key := by omega
  have e2 : placeI R z.plain.key = placeI R y.plain.key := by omega
  have q' : x.plain.ws < z.plain.ws := by
   rcases q with q | q
   ·omega
   ·exact q.2
  have h' := h.2 e1.symm
  have k' := k.2 e2.symm
  by_cases hyx : y.plain.ws < x.plain.ws
  ·exact k' (Tot.trans _ _ _ hyx q')
  ·have := Tot.tri _ _ h' hyx
   rw [← this] at k'
   exact k' q'
theorem blockWeak : Weak (fun a b : BAt => blockCmp a.kind a.name b.kind b.name) := by
 refine ⟨fun x => ?_, fun x y z h k => ?_, fun x y z h k q => ?_⟩
 ·exact fun h => blockLt_irr x.plain ((blockCmp_lt x.plain x.plain).1 h)
 ·exact (blockCmp_lt x.plain z.plain).2 (blockLt_trans _ _ _ ((blockCmp_lt x.plain y.plain).1 h) ((blockCmp_lt y.plain z.plain).1 k))
 ·have h : ¬ blockLt x.plain y.plain = true := fun e => h ((blockCmp_lt x.plain y.plain).2 e)
  have k : ¬ blockLt y.plain z.plain = true := fun e => k ((blockCmp_lt y.plain z.plain).2 e)
  have q := (blockCmp_lt x.plain z.plain).1 q
  rw [blockLt_iff] at h k q
  simp only [not_or, not_and] at h k
  have a1 : ¬ x.plain.kind.toList < y.plain.kind.toList := h.1
  have a2 : ¬ y.plain.kind.toList < z.plain.kind.toList := k.1
  rcases q with q | ⟨q1, q2⟩
  ·by_cases b1 : y.plain.kind.toList < x.plain.kind.toList
   ·exact a2 (Tot.trans _ _ _ b1 q)
   ·rw [← Tot.tri _ _ a1 b1] at a2; exact a2 q
  ·have e1 : x.plain.kind.toList = y.plain.kind.toList := by
    by_cases b1 : y.plain.kind.toList < x.plain.kind.toList
    ·rw [← q1] at a2; exact absurd b1 a2
    ·exact Tot.tri _ _ a1 b1
   have h' := h.2 e1
   have k' := k.2 (e1.symm.trans q1)
   by_cases hyx : y.plain.name.toList < x.plain.name.toList
   ·exact k' (Tot.trans _ _ _ hyx q2)
   ·rw [← Tot.tri _ _ h' hyx] at k'; exact k' q2
theorem sortLines_any {B g : Nat} {v vr : Value} {L : List RAt} {ls : List LAt} {w : World} (hrow : w.ownsRow B 82 2 v ls.length (ls.flatMap LAt.cells)) (hl : L.length ≤ 12) (hr : RulesIn w vr L) (hg : w.cell? ⟨g, 0, none⟩ = some vr) (hin : ∀ x ∈ ls, LineIn w x ∧ x.ws.length ≤ 1048576)
  (hfar : ∀ q, v.ownBlock = some q → FarV q vr L.length ∧ g ≠ q ∧ ∀ x ∈ ls, FarV q x.v x.ws.length) (hlen : ls.length ≤ 1048577) :
  Calls Tryz.prog 52 #[v, .func (.func 117) #[] #[.pointer (some ⟨g, 0, none⟩)]] w fun e w' => e = .returned (.tuple #[]) ∧ ∃ ls' : List LAt, ls'.Perm ls ∧ w'.ownsRow B 82 2 v ls.length (ls'.flatMap LAt.cells) ∧ (∀ i j : Nat, i < j → ∀ a b, ls'[i]? = some a → ls'[j]? = some b → lineLt (L.map RAt.plain) b.plain a.plain = false) ∧ w.grownBy w' v.ownBlock := by
 have H := sortRow_any laysSortL (β := LAt) 2 Tryz.isAgg82 Tryz.sizeOf82 LAt.cells LAt.len (fun x => x ∈ ls) (fun x hx u hu => by
   obtain ⟨a, c, e⟩ := HasRow.form (hin x hx).1
   simp only [LAt.cells, List.mem_cons, List.not_mem_nil, or_false] at hu
   rcases hu with rfl | rfl
   ·rfl
   ·rw [e]; rfl) (fun a b => lineCmp (L.map RAt.plain) a.plain b.plain) (lineWeak _) 117 #[.pointer (some ⟨g, 0, none⟩)] (enters_of Tryz.func117 (by kernel_rfl) rfl) hrow (fun x hx => hx)
  (fun q hq W hW x y hx hy => by
    obtain ⟨f1, f2, f3⟩ := hfar q hq
    have hr' : RulesIn W vr L := ⟨hr.1.far f1 hW, hr.2⟩
    have hg' : W.cell? ⟨g, 0, none⟩ = some vr := (hW.cell_far ⟨g, 0, none⟩ (World.block_lt_of_cell? w _ hg) (by intro e; cases e; exact f2 rfl)).trans hg
    exact lineOrder_any x.plain y.plain g hr' hl hg' ((hin x hx).1.far (f3 x hx) hW) ((hin y hy).1.far (f3 y hy) hW) (hin x hx).2 (hin y hy).2) hlen
 refine H.mono fun e w' ⟨he, ys, h1, h2, h3, h4⟩ => ⟨he, ys, h1, h2, fun i j hij a b ha hb => ?_, h4⟩
 rw [← Bool.not_eq_true, ← lineCmp_lt]
 exact h3 i j hij a b ha hb
theorem sortBlocks_any {B : Nat} {v : Value} {bs : List BAt} {w : World} (hrow : w.ownsRow B 64 3 v bs.length (bs.flatMap BAt.cells)) (hin : ∀ x ∈ bs, ∃ a n c, x.v = .slice a n c) (hlen : bs.length ≤ 1048577) :
  Calls Tryz.prog 55 #[v, .func (.func 56) #[] #[]] w fun e w' => e = .returned (.tuple #[]) ∧ ∃ bs' : List BAt, bs'.Perm bs ∧ w'.ownsRow B 64 3 v bs.length (bs'.flatMap BAt.cells) ∧ (∀ i j : Nat, i < j → ∀ a b, bs'[i]? = some a → bs'[j]? = some b → blockLt b.plain a.plain = false) ∧ w.grownBy w' v.ownBlock := by
 have H := sortRow_any laysSortB (β := BAt) 3 Tryz.isAgg64 Tryz.sizeOf64 BAt.cells BAt.len (fun x => x ∈ bs) (fun x hx u hu => by
   obtain ⟨a, n, c, e⟩ := hin x hx
   simp only [BAt.cells, List.mem_cons, List.not_mem_nil, or_false] at hu
   rcases hu with rfl | rfl | rfl
   ·rfl
   ·rfl
   ·rw [e]; rfl) (fun a b => blockCmp a.kind a.name b.kind b.name) blockWeak 56 #[] (enters_of Tryz.func56 (by kernel_rfl) rfl) hrow (fun x hx => hx)
  (fun q hq W hW x y hx hy => by
    obtain ⟨a, n, c, e⟩ := hin x hx
    obtain ⟨a', n', c', e'⟩ := hin y hy
    show Calls _ _ #[.agg #[.string x.kind, .string x.name, x.v], .agg #[.string y.kind, .string y.name, y.v]] _ _
    rw [e, e']
    exact compareBlocks_any x.kind x.name y.kind y.name n n' c c' a a' W) hlen
 refine H.mono fun e w' ⟨he, ys, h1, h2, h3, h4⟩ => ⟨he, ys, h1, h2, fun i j hij a b ha hb => ?_, h4⟩
 rw [← Bool.not_eq_true, ← blockCmp_lt]
 exact h3 i j hij a b ha hb
end Go.Proofs.YtpdahhnjhggocabGreatDoor
