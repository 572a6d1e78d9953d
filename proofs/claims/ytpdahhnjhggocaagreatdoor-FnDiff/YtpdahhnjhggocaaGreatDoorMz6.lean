import Derived.Test.YtpdahhnjhggocaaGreatDoorMz2
import Derived.Test.YtpdahhnjhggocaaGreatDoorProg
import Derived.WalkMore
import Derived.WalkSpells
import Derived.WalkLawsBesides
import Derived.LoopTactic
import Derived.Deep.RegionHeld3
import Derived.Deep.AppendLies
import Derived.Deep.QuietTactic
import Derived.BigQuiet
import Derived.WalkSmall
import Derived.Laws.OwnMore
import Derived.Laws.IdiomStrings
import Derived.Laws.BytesArg
import Derived.Laws.BitsLemmas
import Derived.Lib.Strings
import Derived.Lib.UnsafeStr
namespace Go.Proofs.YtpdahhnjhggocaaGreatDoor
open Go.RowKit
set_option maxHeartbeats 16000000
set_option maxRecDepth 100000
variable {w w':World}{base n:Nat}{v:Value}{xs:List Value}
theorem Dp{k:IntKind}{a b:Int}(h:a=b):Ending.returned (.int k a)=.returned (.int k b):=by rw[h]
theorem Afp{a b:Value}(h:a=b):Ending.returned a=.returned b:=by rw[h]
theorem Av{a b:Bool}(h:a=b):Ending.returned (.bool a)=.returned (.bool b):=by rw[h]
theorem Yr(t:ByteArray)(k:Nat):(t.extract k t.size).data.toList=t.data.toList.drop k:=by
 rw[Lib.extract_data];exact List.take_of_length_le (by simp)
theorem Pn(w1:World)(v:Value)(B:Nat)(l:List UInt8)(n:Nat)(h:w1.ownsRow B 5 1 v n (Lib.byteCells l)):
  (convert 22 9 v).run Tryz.prog w1=.ok (.string ⟨l.toArray⟩) w1:=by
 have hlen:l.length=n:=by have:=h.1;simpa [Lib.byteCells_length] using this
 subst hlen;rcases h.2 with ⟨rfl,h0⟩ | ⟨g,cap,cur,rfl,hrest⟩
 ·have:l=[]:=List.length_eq_zero_iff.1 h0;subst this;exact run_convert_bytes_nil w1 22 5 Tryz.underlying22 Tryz.underlying5 0 0 9 Tryz.underlying9
 ·refine run_convert_bytes_back w1 22 9 5 ⟨g,0,none⟩ cap l Tryz.underlying22 Tryz.underlying5 Tryz.underlying9 fun j hj=>?_
  refine h.cells rfl j _ ?_;simp only[Lib.byteCells,List.getElem?_map,List.getElem?_eq_getElem hj];rfl
theorem Cl{e:TypeId}{size:Nat}(h:w.ownsRow base e size v n xs)(p:Addr)(hp:p.block<base)(u:Value):(w.setCell p u).ownsRow base e size v n xs:=by
 refine⟨h.1,?_⟩;rcases h.2 with h2 | ⟨g,cap,cur,hv,hb,hg,hrest⟩
 ·exact Or.inl h2
 ·exact Or.inr ⟨g,cap,cur,hv,hb,by rw[Below.heap_setCell _ _ _ _ (by omega)];exact hg,hrest⟩
theorem Ec{base':Nat}{e:TypeId}{size:Nat}(h:w.ownsRow base e size v n xs)(hb:base'≤base):w.ownsRow base' e size v n xs:=by
 refine⟨h.1,?_⟩;rcases h.2 with h2 | ⟨g,cap,cur,hv,hg,hrest⟩
 ·exact Or.inl h2
 ·exact Or.inr ⟨g,cap,cur,hv,by omega,hrest⟩
theorem Cd{e:TypeId}{size:Nat}(h:w.ownsRow base e size v n xs)(hb:Below w.heap.size w w'):w'.ownsRow base e size v n xs:=by
 refine⟨h.1,?_⟩;rcases h.2 with h2 | ⟨g,cap,cur,hv,hg,hh,hrest⟩
 ·exact Or.inl h2
 ·refine Or.inr ⟨g,cap,cur,hv,hg,?_,hrest⟩;rw[hb.block g ?_]
  ·exact hh
  ·exact(Array.getElem?_eq_some_iff.1 hh).1
theorem Wa:(Tryz.prog.info? 9).map (fun i=>(i.zero,i.size,i.bytes))=some (some (.string ⟨#[]⟩),1,16):=by kernel_rfl
theorem Abf(a b:List UInt8):(⟨a.toArray⟩++⟨b.toArray⟩:ByteArray)=⟨(a++b).toArray⟩:=by
 apply ByteArray.ext;simp
theorem Po(w:World)(c:UInt8):(convert 22 9 (.slice (some ⟨w.heap.size,0,none⟩) 1 1)).run Tryz.prog (w.alloc (.cells #[.int .u8 (c.toNat:Int)] 5))=.ok (.string ⟨#[c]⟩) (w.alloc (.cells #[.int .u8 (c.toNat:Int)] 5)) :=
 Pn _ _ w.heap.size [c] 1 (World.ownsRow_lit w #[.int .u8 (c.toNat:Int)] 1 (Nat.le_refl _) (by decide) rfl)
theorem Bs(h:Below w.heap.size w w')(row:Option Nat):w.grownBy w' row:=⟨h.os,h.tape,h.output,h.size,fun i hi _=>h.block i hi⟩
theorem A1{a b c:World}{row:Option Nat}(h:a.grownBy b row)(k:b.grownBy c row):a.grownBy c row :=
 ⟨k.os.trans h.os,k.tape.trans h.tape,k.output.trans h.output,Nat.le_trans h.size k.size,fun i hi hne=>(k.block i (Nat.lt_of_lt_of_le hi h.size) hne).trans (h.block i hi hne)⟩
theorem Afq(ws:List (List UInt8))(j:Nat)(h:j<ws.length):(strs ws)[j]?=some (.string ⟨ws[j].toArray⟩):=by
 simp[strs,h]
theorem Ai{e:TypeId}{size:Nat}(h:w.ownsRow base e size v n xs):∃ ao cap,v=.slice ao n cap∧(n=0∨∃ g,ao=some ⟨g,0,none⟩):=by
 rcases h.2 with ⟨rfl,rfl⟩ | ⟨g,cap,cur,rfl,_⟩
 ·exact⟨none,0,rfl,Or.inl rfl⟩
 ·exact⟨_,_,rfl,Or.inr ⟨g,rfl⟩⟩
variable {B B' g:Nat}
structure MRow where
 v:Value
 e:TypeId
 size:Nat
 n:Nat
 xs:List Value
def MRow.isAt(r:MRow)(B:Nat)(w:World):Prop:=w.ownsRow B r.e r.size r.v r.n r.xs
def A8(B:Nat)(w:World)(L:List MRow):Prop:=(∀ r∈L,r.isAt B w)∧L.Pairwise (fun r s=>r.v.ownBlock=none∨r.v.ownBlock≠s.v.ownBlock)
theorem A8.nil(B:Nat)(w:World):A8 B w []:=⟨by simp,by simp⟩
theorem A8.kept{L:List MRow}(h:A8 B w L)(hg:w.grownBy w' none):A8 B w' L :=
 ⟨fun r hr=>World.ownsRow.kept (h.1 r hr) hg (by cases hv:r.v.ownBlock <;> simp),h.2⟩
theorem A8.below{L:List MRow}(h:A8 B w L)(hb:Below w.heap.size w w'):A8 B w' L:=h.kept (Bs hb none)
theorem A8.mono{L:List MRow}(h:A8 B w L)(hB:B'≤B):A8 B' w L:=⟨fun r hr=>Ec (h.1 r hr) hB,h.2⟩
theorem A8.lt{L:List MRow}(h:A8 B w L){r:MRow}(hr:r∈L)(hg:r.v.ownBlock=some g):B≤g∧g<w.heap.size:=World.ownsRow.lt (h.1 r hr) g hg
theorem A8.join{L N:List MRow}(h:A8 B w L)(hN:A8 w.heap.size w' N)(hb:Below w.heap.size w w')(hB:B≤w.heap.size):A8 B w' (N++L):=by
 have h':=h.below hb;refine⟨fun r hr=>?_,List.pairwise_append.2 ⟨hN.2,h.2,fun r hr s hs=>?_⟩⟩
 ·rcases List.mem_append.1 hr with h1 | h1
  ·exact Ec (hN.1 r h1) hB
  ·exact h'.1 r h1
 ·cases hv:r.v.ownBlock with
  | none=>exact Or.inl rfl
  | some g =>
   refine Or.inr fun e=>?_
   have h1:=(hN.lt hr hv).1;have h2:=(h.lt hs e.symm).2;omega
theorem A8.cons{L:List MRow}{r:MRow}(h:A8 B w L)(hr:r.isAt w.heap.size w')(hb:Below w.heap.size w w')(hB:B≤w.heap.size):A8 B w' (r::L) :=
 h.join (N:=[r]) ⟨fun s hs=>by rw[List.mem_singleton.1 hs];exact hr,by simp⟩ hb hB
theorem A8.head{L:List MRow}{r:MRow}(h:A8 B w (r::L)):w.ownsRow B r.e r.size r.v r.n r.xs:=h.1 r (by simp)
theorem A8.tail{L:List MRow}{r:MRow}(h:A8 B w (r::L)):A8 B w L:=⟨fun s hs=>h.1 s (by simp[hs]),(List.pairwise_cons.1 h.2).2⟩
theorem A8.left{L N:List MRow}(h:A8 B w (N++L)):A8 B w N:=⟨fun s hs=>h.1 s (by simp[hs]),(List.pairwise_append.1 h.2).1⟩
theorem A8.right{L N:List MRow}(h:A8 B w (N++L)):A8 B w L:=⟨fun s hs=>h.1 s (by simp[hs]),(List.pairwise_append.1 h.2).2.1⟩
theorem A8.turn{L:List MRow}{r r':MRow}(h:A8 B w (r::L))(hv:r'.v=r.v)(hr:r'.isAt B w')(hg:w.grownBy w' r.v.ownBlock):A8 B w' (r'::L):=by
 have hp:=List.pairwise_cons.1 h.2;refine⟨fun s hs=>?_,List.pairwise_cons.2 ⟨fun s hs=>by rw[hv];exact hp.1 s hs,hp.2⟩⟩;rcases List.mem_cons.1 hs with rfl | h1
 ·exact hr
 ·refine World.ownsRow.kept (h.1 s (by simp[h1])) hg ?_;rcases hp.1 s h1 with h2 | h2
  ·cases hs':s.v.ownBlock with
   | none=>exact Or.inl rfl
   | some g=>right;rw[h2];simp
  ·exact Or.inr (fun e=>h2 e.symm)
theorem A8.perm{L N:List MRow}(h:A8 B w L)(hp:L.Perm N):A8 B w N:=by
 refine⟨fun r hr=>h.1 r (hp.mem_iff.2 hr),?_⟩;refine(hp.pairwise_iff ?_).1 h.2;intro r s hrs;rcases hrs with h1 | h1
 ·by_cases h2:s.v.ownBlock=none
  ·exact Or.inl h2
  ·exact Or.inr (by rw[h1];exact h2)
 ·exact Or.inr (Ne.symm h1)
def Dq(l:List Int):List Value:=l.map (Value.int .i64)
theorem F7(l:List Int):(Dq l).length=l.length:=by simp[Dq]
variable {ao:Option Addr}{m:Nat}{ws:List (List UInt8)}
theorem Oq(g k:Nat):(⟨g,0,none⟩:Addr).add k=⟨g,k,none⟩:=by
 unfold Addr.add;split <;> simp_all
def An(w:World)(v:Value)(n size:Nat)(xs:List Value):Prop:=xs.length=n * size∧∃ ao cap,v=.slice ao n cap∧(n≤cap∧cap≤maxLen)∧(n=0∨∃ b off,ao=some ⟨b,off,none⟩∧∀ j u,xs[j]?=some u→w.cell? ⟨b,off+j,none⟩=some u)
theorem An.below{size:Nat}(h:An w v n size xs)(hb:Below w.heap.size w w'):An w' v n size xs:=by
 obtain⟨hl,ao,cap,hv,hk,hc⟩:=h;refine⟨hl,ao,cap,hv,hk,?_⟩;rcases hc with h0 | ⟨b,off,ha,hc⟩
 ·exact .inl h0
 ·exact .inr ⟨b,off,ha,fun j u hj=>(hb.cell (World.block_lt_of_cell? w _ (hc j u hj))).trans (hc j u hj)⟩
theorem Bo{e:TypeId}{size:Nat}(h:w.ownsRow B e size v n xs):An w v n size xs:=by
 refine⟨h.1,?_⟩;have h2:=h.2;rcases h2 with ⟨rfl,rfl⟩ | ⟨g,cap,cur,rfl,_,_,hk,hm,_⟩
 ·exact⟨none,0,rfl,⟨Nat.le_refl _,Nat.zero_le _⟩,.inl rfl⟩
 ·refine⟨some ⟨g,0,none⟩,cap,rfl,⟨hk,hm⟩,.inr ⟨g,0,rfl,fun j u hj=>?_⟩⟩;have:=h.cells (g:=g) rfl j u hj;rw[Oq]at this;rw[Nat.zero_add];exact this
theorem An.form{size:Nat}(h:An w v n size xs):∃ ao cap,v=.slice ao n cap:=by
 obtain⟨_,ao,cap,hv,_⟩:=h;exact⟨ao,cap,hv⟩
theorem An.at{cap size:Nat}(h:An w (.slice ao m cap) n size xs)(h0:0<n):∃ b off,ao=some ⟨b,off,none⟩∧∀ j u,xs[j]?=some u→w.cell? ⟨b,off+j,none⟩=some u:=by
 obtain⟨_,ao',cap',hv,_,hc⟩:=h;cases hv
 rcases hc with h1 | h1
 ·omega
 ·exact h1
theorem An.cap{cap size:Nat}(h:An w (.slice ao m cap) n size xs):n≤cap∧cap≤maxLen:=by
 obtain⟨_,ao',cap',hv,hk,_⟩:=h;cases hv
 exact hk
theorem An.take{cap size:Nat}(h:An w (.slice ao n cap) n size xs)(k:Nat)(hk:k≤n):An w (.slice ao k cap) k size (xs.take (k * size)):=by
 obtain⟨hl,ao',c',hv,hcap,hc⟩:=h;cases hv
 refine⟨?_,ao,cap,rfl,⟨by omega,hcap.2⟩,?_⟩
 ·rw[List.length_take,hl];have:k * size≤n * size:=Nat.mul_le_mul_right _ hk;omega
 ·rcases hc with h0 | ⟨b,off,ha,hc⟩
  ·exact .inl (by omega)
  ·refine .inr ⟨b,off,ha,fun j u hj=>hc j u ?_⟩;rw[List.getElem?_take]at hj;split at hj
   ·exact hj
   ·cases hj
theorem An.word{cap:Nat}(h:An w (.slice ao m cap) n 1 (strs ws))(j:Nat)(hj:j<ws.length):∃ b off,ao=some ⟨b,off,none⟩∧w.cell? ⟨b,off+j,none⟩=some (.string ⟨ws[j].toArray⟩):=by
 have hn:0<n:=by have:=h.1;rw[Ev]at this;omega
 obtain⟨b,off,ha,hc⟩:=h.at hn;exact⟨b,off,ha,hc j _ (Afq ws j hj)⟩
end Go.Proofs.YtpdahhnjhggocaaGreatDoor
