import Derived.Test.YtpdahhnjhggocaaGreatDoorMz29
import Derived.Shelf.Abstract
namespace Go.Proofs.YtpdahhnjhggocaaGreatDoor
open Go.RowKit
set_option maxHeartbeats 16000000
set_option maxRecDepth 100000
variable {B g:Nat}{v vr:Value}{ls:List LAt}{w:World}
theorem Aey(R:List Plain):Ait (fun a b:LAt=>lineCmp R a.plain b.plain):=by
 refine⟨fun x=>?_,fun x y z h k=>?_,fun x y z h k q=>?_⟩
 ·rw[H9];exact Fq R _
 ·rw[H9]at *;exact E8 R _ _ _ h k
 ·rw[H9,Ei]at *;simp only[not_or,not_and]at h k;have e1:placeI R y.plain.key=placeI R x.plain.key:=by omega
  have e2:placeI R z.plain.key=placeI R y.plain.key:=by omega
  have q':x.plain.ws<z.plain.ws:=by
   rcases q with q | q
   ·omega
   ·exact q.2
  have h':=h.2 e1.symm;have k':=k.2 e2.symm;by_cases hyx:y.plain.ws<x.plain.ws
  ·exact k' (Jj.trans _ _ _ hyx q')
  ·have:=Jj.tri _ _ h' hyx;rw[← this]at k';exact k' q'
theorem Rn{L:List Ce}(hrow:w.ownsRow B 115 2 v ls.length (ls.flatMap LAt.cells))(hl:L.length≤12)(hr:Gc w vr L)(hg:w.cell? ⟨g,0,none⟩=some vr)(hin:∀ x∈ls,Dm w x∧x.ws.length≤1048576)
  (hfar:∀ q,v.ownBlock=some q→Cr q vr L.length∧g≠q∧∀ x∈ls,Cr q x.v x.ws.length) (hlen:ls.length≤1048577) :
  Calls Tryz.prog 74 #[v,.func (.func 147) #[] #[.pointer (some ⟨g,0,none⟩)]] w fun e w'=>e=.returned (.tuple #[])∧∃ ls':List LAt,ls'.Perm ls∧w'.ownsRow B 115 2 v ls.length (ls'.flatMap LAt.cells)∧(∀ i j:Nat,i<j→∀ a b,ls'[i]?=some a→ls'[j]?=some b→lineLt (L.map Ce.plain) b.plain a.plain=false)∧w.grownBy w' v.ownBlock:=by
 have H:=Xz Acp (β:=LAt) 2 Tryz.isAgg115 Tryz.sizeOf115 LAt.cells LAt.len (fun x=>x∈ls) (fun x hx u hu=>by
   obtain⟨a,c,e⟩:=An.form (hin x hx).1;simp only[LAt.cells,List.mem_cons,List.not_mem_nil,or_false]at hu;rcases hu with rfl | rfl
   ·rfl
   ·rw[e];rfl) (fun a b=>lineCmp (L.map Ce.plain) a.plain b.plain) (Aey _) 147 #[.pointer (some ⟨g,0,none⟩)] (enters_of Tryz.func147 (by kernel_rfl) rfl) hrow (fun x hx=>hx)
  (fun q hq W hW x y hx hy=>by
    obtain⟨f1,f2,f3⟩:=hfar q hq;have hr':Gc W vr L:=⟨hr.1.far f1 hW,hr.2⟩;have hg':W.cell? ⟨g,0,none⟩=some vr:=(hW.cell_far ⟨g,0,none⟩ (World.block_lt_of_cell? w _ hg) (by intro e;cases e;exact f2 rfl)).trans hg;exact Lc x.plain y.plain g hr' hl hg' ((hin x hx).1.far (f3 x hx) hW) ((hin y hy).1.far (f3 y hy) hW) (hin x hx).2 (hin y hy).2) hlen
 refine H.mono fun e w' ⟨he,ys,h1,h2,h3,h4⟩=>⟨he,ys,h1,h2,fun i j hij a b ha hb=>?_,h4⟩
 rw[← Bool.not_eq_true,← H9];exact h3 i j hij a b ha hb
end Go.Proofs.YtpdahhnjhggocaaGreatDoor
