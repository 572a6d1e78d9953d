import Derived.Test.YtpdahhnjhggocaaGreatDoorMz14
import Derived.Sort.Grow
namespace Go.Proofs.YtpdahhnjhggocaaGreatDoor
open Go.RowKit
set_option maxHeartbeats 16000000
set_option maxRecDepth 100000
variable {w w':World}{v:Value}{α:Type}{ao:Option Addr}{n m:Nat}
structure LAt where
 key:ByteArray
 v:Value
 ws:List (List UInt8)
def LAt.cells(x:LAt):List Value:=[.string x.key,x.v]
def LAt.plain(x:LAt):PLine:=⟨x.key,x.ws⟩
structure BAt where
 kind:ByteArray
 name:ByteArray
 v:Value
 ls:List LAt
def BAt.cells(x:BAt):List Value:=[.string x.kind,.string x.name,x.v]
def BAt.plain(x:BAt):PBlock:=⟨x.kind,x.name,x.ls.map LAt.plain⟩
def Dm(w:World)(x:LAt):Prop:=An w x.v x.ws.length 1 (strs x.ws)
def Ah(w:World)(v:Value)(ls:List LAt):Prop:=An w v ls.length 2 (ls.flatMap LAt.cells)∧∀ x∈ls,Dm w x
def Cb(w:World)(b:BAt):Prop:=Ah w b.v b.ls
def Aw(w:World)(v:Value)(bs:List BAt):Prop:=An w v bs.length 3 (bs.flatMap BAt.cells)∧∀ b∈bs,Cb w b
theorem Dm.below{x:LAt}(h:Dm w x)(hb:Below w.heap.size w w'):Dm w' x:=An.below h hb
theorem Ah.below{ls:List LAt}(h:Ah w v ls)(hb:Below w.heap.size w w'):Ah w' v ls:=⟨h.1.below hb,fun x hx=>(h.2 x hx).below hb⟩
theorem Cb.below{b:BAt}(h:Cb w b)(hb:Below w.heap.size w w'):Cb w' b:=Ah.below h hb
theorem Aw.below{bs:List BAt}(h:Aw w v bs)(hb:Below w.heap.size w w'):Aw w' v bs:=⟨h.1.below hb,fun x hx=>(h.2 x hx).below hb⟩
theorem By(f:α→List Value)(k:Nat)(hf:∀ x,(f x).length=k)(L:List α):(L.flatMap f).length=L.length * k:=by
 induction L with
 | nil=>simp
 | cons a M ih=>rw[List.flatMap_cons,List.length_append,ih,hf,List.length_cons,Nat.succ_mul];omega
theorem D4(f:α→List Value)(k:Nat)(hf:∀ x,(f x).length=k)(D T:List α)(r:α)(c:Nat)(hc:c<k):((D++r::T).flatMap f)[D.length * k+c]?=(f r)[c]?:=by
 rw[List.flatMap_append,List.flatMap_cons,List.getElem?_append_right (by rw[By f k hf];omega),By f k hf,Nat.add_sub_cancel_left,List.getElem?_append_left (by rw[hf];omega)]
theorem Sf(f:α→List Value)(k:Nat)(hf:∀ x,(f x).length=k)(L:List α)(n:Nat):(L.flatMap f).take (n * k)=(L.take n).flatMap f:=by
 induction n generalizing L with
 | zero=>simp
 | succ n ih =>
  cases L with
  | nil=>simp
  | cons a L=>rw[List.flatMap_cons,List.take_succ_cons,List.flatMap_cons,Nat.succ_mul,Nat.add_comm,List.take_append,hf,Nat.add_sub_cancel_left,ih,List.take_of_length_le (by rw[hf];omega)]
theorem LAt.len(x:LAt):x.cells.length=2:=rfl
theorem BAt.len(x:BAt):x.cells.length=3:=rfl
theorem An.line{cap:Nat}{D T:List LAt}{x:LAt}(h:An w (.slice ao m cap) n 2 ((D++x::T).flatMap LAt.cells)):∃ b off,ao=some ⟨b,off,none⟩∧w.cell? ⟨b,off+D.length * 2,none⟩=some (.string x.key)∧w.cell? ⟨b,off+D.length * 2+1,none⟩=some x.v:=by
 have hn:0<n:=by have:=h.1;rw[By _ 2 LAt.len]at this;simp at this;omega
 obtain⟨b,off,ha,hc⟩:=h.at hn;refine⟨b,off,ha,?_,?_⟩
 ·have:=hc (D.length * 2+0) (.string x.key) (by rw[D4 _ 2 LAt.len _ _ _ 0 (by decide)];rfl);simpa using this
 ·have:=hc (D.length * 2+1) x.v (by rw[D4 _ 2 LAt.len _ _ _ 1 (by decide)];rfl);rw[← Nat.add_assoc]at this;exact this
theorem An.block{cap:Nat}{D T:List BAt}{x:BAt}(h:An w (.slice ao m cap) n 3 ((D++x::T).flatMap BAt.cells)):∃ b off,ao=some ⟨b,off,none⟩∧w.cell? ⟨b,off+D.length * 3,none⟩=some (.string x.kind)∧w.cell? ⟨b,off+D.length * 3+1,none⟩=some (.string x.name)∧w.cell? ⟨b,off+D.length * 3+2,none⟩=some x.v:=by
 have hn:0<n:=by have:=h.1;rw[By _ 3 BAt.len]at this;simp at this;omega
 obtain⟨b,off,ha,hc⟩:=h.at hn;refine⟨b,off,ha,?_,?_,?_⟩
 ·have:=hc (D.length * 3+0) (.string x.kind) (by rw[D4 _ 3 BAt.len _ _ _ 0 (by decide)];rfl);simpa using this
 ·have:=hc (D.length * 3+1) (.string x.name) (by rw[D4 _ 3 BAt.len _ _ _ 1 (by decide)];rfl);rw[← Nat.add_assoc]at this;exact this
 ·have:=hc (D.length * 3+2) x.v (by rw[D4 _ 3 BAt.len _ _ _ 2 (by decide)];rfl);rw[← Nat.add_assoc]at this;exact this
def Bw(w w':World):Prop:=Below w.heap.size w w'∧w.drawn≤w'.drawn
theorem Bw.refl(w:World):Bw w w:=⟨Below.refl _ _,Nat.le_refl _⟩
theorem Bw.trans{a b c:World}(h:Bw a b)(k:Bw b c):Bw a c:=⟨h.1.trans (k.1.mono h.1.size),Nat.le_trans h.2 k.2⟩
theorem Bw.alloc(h:Bw w w')(o:Obj):Bw w (w'.alloc o):=⟨h.1.alloc h.1.size o,h.2⟩
theorem Bw.drewN(h:Bw w w')(n:Nat):Bw w (w'.drewN n):=⟨⟨h.1.os,h.1.tape,h.1.output,h.1.size,h.1.block⟩,Nat.le_trans h.2 (Nat.le_add_right _ _)⟩
theorem Bw.grow(h:Bw w w'):∃ q os,w'=Sort.grow (w.drewN q) os:=by
 obtain⟨⟨h1,h2,h3,h4,h5⟩,h6⟩:=h;refine⟨w'.drawn - w.drawn,w'.heap.extract w.heap.size w'.heap.size,?_⟩;obtain⟨heap,tape,drawn,os,output⟩:=w;obtain⟨heap',tape',drawn',os',output'⟩:=w';simp only at h1 h2 h3 h4 h5 h6;subst h1 h2 h3;simp only[Sort.grow,World.drewN,World.mk.injEq,true_and,and_true];refine⟨?_,by omega⟩;apply Array.ext_getElem?;intro i;by_cases hi:i<heap.size
 ·rw[Array.getElem?_append_left hi];exact h5 i hi
 ·rw[Array.getElem?_append_right (by omega),Array.getElem?_extract];by_cases hj:i<heap'.size
  ·rw[if_pos (by omega),show heap.size+(i - heap.size)=i by omega]
  ·rw[Array.getElem?_eq_none (by omega),if_neg (by omega)]
end Go.Proofs.YtpdahhnjhggocaaGreatDoor
