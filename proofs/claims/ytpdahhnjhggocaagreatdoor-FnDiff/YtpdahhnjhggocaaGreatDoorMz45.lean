import Derived.Test.YtpdahhnjhggocaaGreatDoorMz25
import Derived.Test.YtpdahhnjhggocaaGreatDoorMz30
import Derived.Test.YtpdahhnjhggocaaGreatDoorMz32
import Derived.Laws.StructEq
import Derived.RangeFuncNested
import Derived.RangeFuncBound
import Derived.RangeFuncCalls
import Derived.RangeFuncLeaves
import Derived.OwnWalkIn
import Derived.TacticsInMore
import Derived.LoopNIn
import Derived.LoopIn
import Derived.Sort.MapsRangeIn
import Derived.Maps.AppendAt
import Derived.Test.YtpdahhnjhggocaaGreatDoorMz31
import Derived.WideLaws
namespace Go.Proofs.YtpdahhnjhggocaaGreatDoor
open Go.RowKit
set_option maxHeartbeats 16000000
set_option maxRecDepth 100000
def Ai7(i:Nat)(b:BAt):MapEntry:=⟨.agg #[.string b.kind,.string b.name],.agg #[.string b.kind,.string b.name,b.v],i⟩
def Ai8(bs:List BAt):Obj:=.map (bs.mapIdx Ai7).toArray bs.length
structure OvI(w:World)(r:Nat)(bs:List BAt)(W:World):Prop where
 bw:Below w.heap.size w W
 mp:W.heap[r]?=some (Ai8 bs)
 mem:A8 (r+1) W (bs.flatMap BAt.rows)
 ok:∀ b∈bs,Bi (rulesOf b.kind) (b.ls.map LAt.plain)
 sm:∀ b∈bs,b.name.size≤1048576∧Ae b.ls
 wr:w.heap.size≤r
end Go.Proofs.YtpdahhnjhggocaaGreatDoor
namespace Go.Proofs.YtpdahhnjhggocaaGreatDoor
open Go.RowKit
set_option maxHeartbeats 16000000
set_option maxRecDepth 100000
section
open Go.Shelf
attribute [local go_sem] Oper.semAt_some
section
variable {F:Fence} {n:Nat} (w:World) {ops:Array Oper} {rest:List Oper} {o:Oper} {a:Act} {Q:Exit→Act→World→Prop}
end
end
section
open Go.Shelf
attribute [local go_sem] Oper.semAt_some
end
section
open Go.Shelf
attribute [local go_sem] Oper.semAt_some
end
end Go.Proofs.YtpdahhnjhggocaaGreatDoor
namespace Go.Proofs.YtpdahhnjhggocaaGreatDoor
open Go.RowKit
set_option maxHeartbeats 16000000
set_option maxRecDepth 100000
variable {v v1 v2:Value}{W W':World}
def Nw(T:List PBlock)(v:Value)(W:World):Prop:=∃ bs,bs.map BAt.plain=T∧Aw W v bs∧A2 bs
theorem Nw.below{T:List PBlock}(h:Nw T v W)(hb:Below W.heap.size W W'):Nw T v W':=by
 obtain⟨bs,h1,h2,h3⟩:=h;exact⟨bs,h1,h2.below hb,h3⟩
theorem X2{T U:List PBlock}(h1:Nw T v1 W)(h2:Nw U v2 W)(e:T=U):Calls Tryz.prog 12 #[.agg #[v1],.agg #[v2]] W fun e w'=>e=.returned (.bool true)∧Below W.heap.size W w':=by
 obtain⟨b1,rfl,i1,s1⟩:=h1;obtain⟨b2,rfl,i2,s2⟩:=h2;have:=X1 i1 i2 s1;rw[Fm e]at this;exact this
theorem Oe{T:List PBlock}(h:Nw T v W):Calls Tryz.prog 14 #[.agg #[v]] W fun e w'=>e=.returned (.bool (Ca T))∧Below W.heap.size W w':=by
 obtain⟨bs,rfl,i,s⟩:=h;exact C6 i s
def Mw(w:World)(e:Ending)(w':World):Prop:=∃ a n c b m d TA TB,e=.returned (.tuple #[.agg #[.slice a n c],.agg #[.slice b m d]])∧(Nw TA (.slice a n c) w'∧Nw TB (.slice b m d) w')∧Below w.heap.size w w'
structure FoS(w:World)(TA TB TC:List PBlock)(A B C:Nat)(av bv cv:Value)(W:World):Prop where
 bw:Below w.heap.size w W
 ca:W.cell? ⟨A,0,none⟩=some av
 cb:W.cell? ⟨B,0,none⟩=some bv
 cc:W.cell? ⟨C,0,none⟩=some cv
 ia:Nw TA av W
 ib:Nw TB bv W
 ic:Nw TC cv W
 st:Dx W
theorem Z7(w:World)(x y:Value):Below w.heap.size w ((w.alloc (.cells #[x] 25)).alloc (.cells #[y] 25))∧((w.alloc (.cells #[x] 25)).alloc (.cells #[y] 25)).cell? ⟨w.heap.size,0,none⟩=some x∧((w.alloc (.cells #[x] 25)).alloc (.cells #[y] 25)).cell? ⟨w.heap.size+1,0,none⟩=some y:=by
 have b0:=(Below.refl w.heap.size w).alloc (Nat.le_refl _) (.cells #[x] 25);have b1:=(Below.refl (w.alloc (.cells #[x] 25)).heap.size (w.alloc (.cells #[x] 25))).alloc (Nat.le_refl _) (.cells #[y] 25);have z0:=Al w (.cells #[x] 25);have z1:=Al (w.alloc (.cells #[x] 25)) (.cells #[y] 25);have y0:=Ab ((b1.block w.heap.size (by simp)).trans z0) 0;have y1:=Ab z1 0;simp only[List.getElem?_toArray,List.getElem?_cons_zero,World.size_alloc]at y0 y1;exact⟨b0.trans (b1.mono b0.size),y0,y1⟩
end Go.Proofs.YtpdahhnjhggocaaGreatDoor
