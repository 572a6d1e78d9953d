import Derived.Test.YtpdahhnjhggocaaGreatDoorMr18
import Derived.Test.YtpdahhnjhggocaaGreatDoorMr19
import Derived.Lib.LaidTab
open Go.Proofs.Tryz
open Go.World renaming block_lt_of_cell?->aA,size_alloc->bH,alloc->bK
open Go.Obj renaming cells->aB
open Go.Value renaming slice->aC,agg->bF,pointer->bM
open List renaming length_append->aD,getElem?_append_right->aH,length_map->aI,append_assoc->aJ,getElem?_cons_zero->aM,getElem?_cons_succ->aN,getElem?_toArray->aP,getElem?_map->aQ,take_length->aR,mem_map_of_mem->aS,mem_of_mem_take->aX,length->aY,length_take->bB,getElem?_eq_none->bE
open Nat renaming le_refl->aE,le_trans->aG,sub_self->aW,mul_le_mul_left->aZ
open Go.RowKit.Below renaming refl->aF
open Int renaming natCast_add->aK
open Option renaming some->aL,none->aO,map_eq_some_iff->bD
open Option.some renaming inj->aT
open Go.Ending renaming returned->aU
open Go.Lib renaming cell_of_heap->aV,decDigits->bA
open ByteArray renaming size_append->bC
open Go.DataW renaming trod->bG,lit->bL
open Go.NoPanic renaming normal->bI
open Go renaming Ending->bJ
namespace Go.Proofs.YtpdahhnjhggocaaGreatDoor
open Go.RowKit
set_option maxHeartbeats 16000000
set_option maxRecDepth 100000
variable {op:Option PBlock}{ws:List (List UInt8)}{n:Nat}{w w':World}
section
open Go.Lib (decDigits)
theorem Lg(es:List PBlock)(kind name:ByteArray):headFault es kind name=0\/(1<=headFault es kind name/\headFault es kind name<=11):=by
 unfold headFault;split
 ·right;decide
 split
 ·right;decide
 split
 ·right;decide
 split
 ·right;decide
 ·left;rfl
theorem Lh(R:List Plain)(es:List PLine)(a:PLine):lineFault R es a=0\/(1<=lineFault R es a/\lineFault R es a<=11):=by
 unfold lineFault;split
 ·right;decide
 split
 ·right;decide
 split
 ·right;decide
 split
 ·right;decide
 ·left;rfl
theorem Xu{done:List PBlock}{x:List UInt8}(h:(Be done op x ws).1≠0):1<=(Be done op x ws).1/\(Be done op x ws).1<=11:=by
 revert h
 unfold Be;split
 ·split
  ·exact fun h=>(Lg _ _ _).resolve_left h
  ·intro _;simp
 ·split
  ·intro h;simp at h
  ·exact fun h=>(Lh _ _ _).resolve_left h
theorem Gz:∀(ls:List (List UInt8)) (n:Nat) (done:List PBlock) (op:Option PBlock) (k:Nat) (c:Int),AQ n done op ls=.bad k c->1<=c/\c<=11
 | [],n,done,aO,k,c,e=>by cases e
 | [],n,done,aL b,k,c,e=>by cases e;decide
 | l::ls,n,done,op,k,c,e=>by
  unfold AQ at e;split at e
  ·cases e;decide
  ·exact Gz ls _ _ _ k c e
  ·split at e
   ·rename_i h;cases e;exact Xu h
   ·exact Gz ls _ _ _ k c e
theorem CN{t:List UInt8}{c:Int}(h:AU t=.bad n c):n<=401/\1<=c/\c<=11:=by
 unfold AU at h;split at h
 ·cases h;decide
 ·rename_i a;have h1:=Gh _ _ _ _ _ _ h;exact⟨by omega,Gz _ _ _ _ _ _ h⟩
def IR(l:List UInt8)(w:World)(e:bJ)(w':World):Prop:=∃t:ByteArray,e=aU (.string t)/\t.data.toList=l/\Below w.heap.size w w'
theorem MU(a:Int)(w:World):Calls prog 217 #[.int .i64 a] w fun e w'=>e=aU (.string ⟨(Fe a).toArray⟩)/\Below w.heap.size w w':=by
 unfold Fe;by_cases h1:a=1
 ·subst h1;go_enter func217,ntmps217;go_wp2;go_ret;exact⟨rfl,aF _ _⟩
 ·by_cases b:a=2
  ·subst b;go_enter func217,ntmps217;go_wp2;go_ret;exact⟨rfl,aF _ _⟩
  ·rw[if_neg h1,if_neg b];have c:(a==1)=false:=by simpa using h1
   have d:(a==2)=false:=by simpa using b
   go_enter func217,ntmps217;go_wp2;go_ret;exact⟨rfl,aF _ _⟩
def DB(w:World):Prop:=∀k:Nat,k<12->w.cell? ⟨1,k,aO⟩=aL (.string ⟨(Gp (k:Int)).toArray⟩)
theorem DB.V(h:DB w)(b:Below w.heap.size w w'):DB w':=fun k a=>(b.cell (aA w _ (h k a))).trans (h k a)
theorem Kn(k:Nat)(h:k<12):(Gp (k:Int)).length<=30:=by
 match k,h with
 | 0,_|1,_|2,_|3,_|4,_|5,_|6,_|7,_|8,_|9,_|10,_|11,_=>decide
theorem Ko(n:Nat)(h:n<=401):(bA n).length<=7:=by rw[Lib.decDigits_length];exact Fm _ (by omega)
theorem I0(name:ByteArray)(n k:Nat)(B:name.size<=1000)(r:n<=401)(h1:1<=k)(C:k<=11)(l:BZ w)(m:DB w):Calls prog 161 #[.string name,bF #[.int .i64 (n:Int),.int .i64 (k:Int)]] w fun e w'=>IR (faultL name.data.toList n (k:Int)) w e w':=by
 have b0:=(aF w.heap.size w).alloc (aE _) (aB #[.int .i64 (n:Int),.int .i64 (k:Int)] 38);have z0:=BB.new w #[.int .i64 (n:Int),.int .i64 (k:Int)] 38;have c0:=Aa z0 0;have a:=Aa z0 1;simp only[aP,aM,aN]at c0 a;have g:=Sa (n:Int) (by omega) (by omega) (w.alloc (aB #[.int .i64 (n:Int),.int .i64 (k:Int)] 38)) (l.V b0);obtain⟨d,hd⟩:∃d:ByteArray,d=⟨(Lib.itoa (n:Int)).toArray⟩:=⟨_,rfl⟩;have h:d.data.toList=bA n:=by rw[hd];unfold Lib.itoa;rw[if_neg (by omega)];simp
 have D:d.size<=7:=by have:=Ko n r;rw[<-h]at this;simpa using this
 rw[<-hd]at g;obtain⟨x,i⟩:∃x:ByteArray,x=⟨(Gp (k:Int)).toArray⟩:=⟨_,rfl⟩;have j:x.data.toList=Gp (k:Int):=by rw[i]
 have E:x.size<=30:=by have:=Kn k (by omega);rw[<-j]at this;simpa using this
 have b:=m k (by omega);rw[<-i]at b;have o:=Ab (show ∀W,Below w.heap.size w W->W.cell? ⟨1,k,aO⟩=aL (.string x) from fun W s=>(s.cell (aA w _ b)).trans b);have p:=Ab (show faultL name.data.toList n (k:Int)=name.data.toList++(if (k:Int)=11 then [] else 58::d.data.toList)++[58,32]++x.data.toList from by rw[h,j];rfl);generalize faultL name.data.toList n (k:Int)=F at *;have G:(0:Int)<=(k:Int):=by omega
 have i2:(k:Int)<12:=by omega
 clear l m i j hd h b;by_cases t:k=11
 ·have u:((k:Int) != 11)=false:=by simp;omega
  have c:(k:Int)=11:=by omega
  have v:=Ab c;clear t c;have y:=o.out _ b0;have z:¬ 9223372036854775807<name.size+2:=by omega
  have A:¬ 9223372036854775807<name.size+2+x.size:=by omega
  go_enter func161,ntmps161;go_wp2;go_ret;exact⟨_,rfl,by rw[p.out,if_pos v.out];simp,b0⟩
 ·have u:((k:Int) != 11)=true:=by simp;omega
  have c:¬(k:Int)=11:=by omega
  go_enter func161,ntmps161;go_wp2_with (go_at_call 216;refine g.mono ?_)
  first|rintro e w2 rfl f|rintro e w2 ⟨rfl,f⟩
  have q:=b0.trans (f.mono b0.size);have y:=o.out _ q;have H:=(f.cell (aA _ _ c0)).trans c0;have I:=(f.cell (aA _ _ a)).trans a;have J:¬ 9223372036854775807<1+d.size:=by omega
  have z:¬ 9223372036854775807<name.size+(1+d.size):=by omega
  have A:¬ 9223372036854775807<name.size+(1+d.size)+2:=by omega
  have K:¬ 9223372036854775807<name.size+(1+d.size)+2+x.size:=by omega
  clear g c0 a;go_wp2;go_ret;exact⟨_,rfl,by rw[p.out,if_neg c];simp,q⟩
end
section
open Go.Lib (decDigits)
def Qw:Array Value:=#[.string ⟨#[]⟩,.string ⟨#[97,32,119,111,114,100,32,116,104,97,116,32,105,115,32,110,111,110,101]⟩,.string ⟨#[97,32,108,105,110,101,32,111,117,116,115,105,100,101,32,111,102,32,98,108,111,99,107,115]⟩,.string ⟨#[110,111,32,115,117,99,104,32,107,105,110,100]⟩,.string ⟨#[110,111,32,115,117,99,104,32,110,97,109,101]⟩,.string ⟨#[110,111,32,115,117,99,104,32,107,101,121]⟩,.string ⟨#[115,97,105,100,32,116,119,105,99,101]⟩,.string ⟨#[110,111,116,32,119,104,97,116,32,116,104,101,32,107,101,121,32,116,97,107,101,115]⟩,.string ⟨#[97,32,98,108,111,99,107,32,116,104,97,116,32,105,115,32,110,111,116,32,101,110,100,101,100]⟩,.string ⟨#[97,32,98,108,111,99,107,32,97,103,97,105,110]⟩,.string ⟨#[116,111,111,32,109,97,110,121]⟩,.string ⟨#[116,111,111,32,108,111,110,103]⟩]
theorem Ve(k:Nat)(h:k<12):Qw[k]?=aL (.string ⟨(Gp (k:Int)).toArray⟩):=by
 match k,h with
 | 0,_|1,_|2,_|3,_|4,_|5,_|6,_|7,_|8,_|9,_|10,_|11,_=>rfl
theorem KG(name:ByteArray)(n k:Nat)(D:name.size<=1000)(u:n<=401)(h1:1<=k)(E:k<=11):Calls prog 103 #[.string name,bF #[.int .i64 (n:Int),.int .i64 (k:Int)]] w fun e w'=>IR (faultL name.data.toList n (k:Int)++[10]) w e w':=by
 have b0:=(aF w.heap.size w).alloc (aE _) (aB #[.int .i64 (n:Int),.int .i64 (k:Int)] 38);have z0:=BB.new w #[.int .i64 (n:Int),.int .i64 (k:Int)] 38;have f:=(aF _ (w.alloc (aB #[.int .i64 (n:Int),.int .i64 (k:Int)] 38))).alloc (aE _) (aB Qw 9);have g:=BB.new (w.alloc (aB #[.int .i64 (n:Int),.int .i64 (k:Int)] 38)) Qw 9;have a:=b0.trans (f.mono b0.size);have h:=z0.V f;rw[bH]at g;have o:=fun W=>JQ n W (by omega)
 obtain⟨d,hd⟩:∃d:ByteArray,d=⟨(bA n).toArray⟩:=⟨_,rfl⟩;have i:d.data.toList=bA n:=by rw[hd]
 have F:d.size<=7:=by have:=Ko n u;rw[<-i]at this;simpa using this
 simp only[<-hd]at o;obtain⟨x,j⟩:∃x:ByteArray,x=⟨(Gp (k:Int)).toArray⟩:=⟨_,rfl⟩;have l:x.data.toList=Gp (k:Int):=by rw[j]
 have G:x.size<=30:=by have:=Kn k (by omega);rw[<-l]at this;simpa using this
 have b:=(Aa g k).trans (Ve k (by omega));rw[<-j]at b;have c0:=Aa h 0;have c:=Aa h 1;simp only[aP,aM,aN]at c0 c;have q:=Ab (show faultL name.data.toList n (k:Int)++[10]=name.data.toList++(if (k:Int)=11 then [] else 58::d.data.toList)++[58,32]++x.data.toList++[10] from by rw[i,l];rfl);generalize faultL name.data.toList n (k:Int)++[10]=H at *;have I:(0:Int)<=(k:Int):=by omega
 have i2:(k:Int)<12:=by omega
 clear j l hd i z0 h g b0 f;unfold Qw at a b c0 c;generalize r:(w.alloc (aB #[.int .i64 (n:Int),.int .i64 (k:Int)] 38)).alloc (aB #[.string ⟨#[]⟩,.string ⟨#[97,32,119,111,114,100,32,116,104,97,116,32,105,115,32,110,111,110,101]⟩,.string ⟨#[97,32,108,105,110,101,32,111,117,116,115,105,100,101,32,111,102,32,98,108,111,99,107,115]⟩,.string ⟨#[110,111,32,115,117,99,104,32,107,105,110,100]⟩,.string ⟨#[110,111,32,115,117,99,104,32,110,97,109,101]⟩,.string ⟨#[110,111,32,115,117,99,104,32,107,101,121]⟩,.string ⟨#[115,97,105,100,32,116,119,105,99,101]⟩,.string ⟨#[110,111,116,32,119,104,97,116,32,116,104,101,32,107,101,121,32,116,97,107,101,115]⟩,.string ⟨#[97,32,98,108,111,99,107,32,116,104,97,116,32,105,115,32,110,111,116,32,101,110,100,101,100]⟩,.string ⟨#[97,32,98,108,111,99,107,32,97,103,97,105,110]⟩,.string ⟨#[116,111,111,32,109,97,110,121]⟩,.string ⟨#[116,111,111,32,108,111,110,103]⟩] 9)=W1 at *;have s:=Ab r;clear r;go_enter func103,ntmps103;go_upto_region 2 with fail
 rw[s.out];clear s;by_cases t:k=11
 ·have v:((k:Int)==11)=true:=by simp;omega
  have m:=Ab (show (k:Int)=11 by omega);have y:¬ 9223372036854775807<name.size+2:=by omega
  have z:¬ 9223372036854775807<name.size+2+x.size:=by omega
  have A:¬ 9223372036854775807<name.size+2+x.size+1:=by omega
  clear t;go_wp2;go_ret;exact⟨_,rfl,by rw[q.out,if_pos m.out];simp,a⟩
 ·have v:((k:Int)==11)=false:=by rw[beq_eq_false_iff_ne];omega
  have m:=Ab (show ¬(k:Int)=11 by omega);have y:¬ 9223372036854775807<name.size+1:=by omega
  have z:¬ 9223372036854775807<name.size+1+d.size:=by omega
  have A:¬ 9223372036854775807<name.size+1+d.size+2:=by omega
  have J:¬ 9223372036854775807<name.size+1+d.size+2+x.size:=by omega
  have K:¬ 9223372036854775807<name.size+1+d.size+2+x.size+1:=by omega
  have B:=fun p:Gr W1=>Aq c0 p
  have u1:=fun p:Gr W1=>Aq c p
  have u2:=fun p:Gr W1=>Aq b p
  clear t;go_upto_region 4 with fail
  refine A5 (by kernel_rfl) (by kernel_rfl) ?_;iterate 4 quiet_step (fail)
  quiet_step ((go_at_call 85;refine CD (o _)))
  iterate 10 quiet_step (fail)
  refine wpQuiet_nil ?_;rintro L ⟨⟨_,C⟩,rfl⟩;clear B u1 u2 c0 c b;go_wp2;go_ret;exact⟨_,rfl,by rw[q.out,if_neg m.out];simp,a.trans (C.mono a.size)⟩
end
variable {bs:List BAt}{m:Nat}{v:Value}{W:World}{A:List PBlock}
theorem AP(t:ByteArray):t.data.toList.length=t.size:=by simp
theorem Ey(h:AA (bs.map BAt.I)):A3 bs:=by
 have d:=h.1;rw[aI]at d;refine⟨by omega,fun b f=>?_⟩;have h1:=h.2.1 b.I (aS f);have a:=(Eh h1.2.1).2;have j:=(Sw h1.2.2).1;have e:b.I.ac.length=b.ls.length:=aI ..;rw[AP]at a;refine⟨aG a (by decide),by omega,fun x g=>?_⟩;have c:=JX (h1.2.2.1 x.I (aS g));exact⟨aG c.2.2.2.1 (by decide),fun y i=>aG (c.2.2.2.2 y i) (by decide)⟩
theorem MZ(s:ByteArray){c:Int}(a:s.size<=4000000)(d:AU s.data.toList=.bad m c):Calls prog 23 #[.string s] w fun e w'=>e=aU (.tuple #[bF #[aC aO 0 0],bF #[.int .i64 (m:Int),.int .i64 c]])/\Below w.heap.size w w':=by
 refine(FG s w a).mono ?_;rintro e w' ⟨b,h⟩;rw[d]at h;exact⟨h,b⟩
def Zx(bs:List PBlock)(w:World)(e:bJ)(w':World):Prop:=∃a n c bs',e=aU (.tuple #[bF #[aC a n c],bF #[.int .i64 0,.int .i64 0]])/\(bs'.map BAt.I=AO bs/\Au w' (aC a n c) bs')/\Below w.heap.size w w'
theorem KH(s:ByteArray){bs:List PBlock}(f:s.size<=4000000)(g:AU s.data.toList=.good bs):Calls prog 23 #[.string s] w fun e w'=>Zx bs w e w':=by
 refine(FG s w f).mono ?_;rintro e w' ⟨b,h⟩;rw[g]at h;obtain⟨v',bs',rfl,i,d⟩:=h;obtain⟨a,c,rfl,_⟩:=Al d.row;exact⟨a,_,c,bs',rfl,⟨i,d.bin⟩,b⟩
theorem FH(w:World)(x:Value)(m c:Int):Below w.heap.size w ((w.alloc (aB #[x] 25)).alloc (aB #[.int .i64 m,.int .i64 c] 38))/\((w.alloc (aB #[x] 25)).alloc (aB #[.int .i64 m,.int .i64 c] 38)).cell? ⟨w.heap.size,0,aO⟩=aL x/\((w.alloc (aB #[x] 25)).alloc (aB #[.int .i64 m,.int .i64 c] 38)).cell? ⟨w.heap.size+1,0,aO⟩=aL (.int .i64 m)/\((w.alloc (aB #[x] 25)).alloc (aB #[.int .i64 m,.int .i64 c] 38)).cell? ⟨w.heap.size+1,1,aO⟩=aL (.int .i64 c):=by
 have b0:=(aF w.heap.size w).alloc (aE _) (aB #[x] 25);have a:=(aF (w.alloc (aB #[x] 25)).heap.size (w.alloc (aB #[x] 25))).alloc (aE _) (aB #[.int .i64 m,.int .i64 c] 38);have z0:=Ai w (aB #[x] 25);have b:=Ai (w.alloc (aB #[x] 25)) (aB #[.int .i64 m,.int .i64 c] 38);have d:=Aa ((a.block w.heap.size (by simp)).trans z0) 0;have e:=Aa b 0;have f:=Aa b 1;simp only[aP,aM,aN,bH]at d e f;exact⟨b0.trans (a.mono b0.size),d,e,f⟩
def Adu(P:List PChange)(w:World)(e:bJ)(w':World):Prop:=∃a n c cs,e=aU (aC a n c)/\(cs.map Bl.I=P/\cs.length=n/\∀x∈cs,Aj x.ls)/\OA w' (aC a n c) cs/\Below w.heap.size w w'
theorem Ae4{P:List PChange}{e:bJ}(h:D9 P w e w'):Adu P w e w':=by
 obtain⟨v',d,rfl,f,g,_,b,i⟩:=h;obtain⟨a,c,rfl,_⟩:=Al b.row;exact⟨a,_,c,d,rfl,⟨f,rfl,g⟩,b.cin,i⟩
def Ae5(P:List PBlock)(w:World)(e:bJ)(w':World):Prop:=∃a n c bs,e=aU (bF #[aC a n c])/\bs.map BAt.I=P/\Au w' (aC a n c) bs/\Below w.heap.size w w'
theorem Tc(h:Au w v bs)(f:AA (bs.map BAt.I))(b:Below w.heap.size w W):Calls prog 27 #[bF #[v]] W fun e w'=>Ae5 (fillS (bs.map BAt.I)) W e w':=by
 refine(Qv (h.V b) (Ey f)).mono ?_;rintro e w' ⟨v',bs',rfl,g,d,b⟩;obtain⟨a,c,rfl,_⟩:=Al d.row;exact⟨a,_,c,bs',rfl,g,d.bin,b⟩
theorem Vf{B:List PBlock}(k:Nat):(((diffS A B).take k).flatMap (fun c=>tellC c++[10])).length<=300000000:=by
 have h1:=FP (fun c=>tellC c++[10]) 260001 ((diffS A B).take k) (fun c a=>by
  have:=Sx (M7 (aX a));rw[aD,List.length_singleton];omega)
 have b:((diffS A B).take k).length<=780:=by rw[bB];have:=Ka A B;omega
 have d:260001*((diffS A B).take k).length<=260001*780:=aZ _ b;omega
def Ae6:Array Value:=#[.string ⟨#[]⟩,.string ⟨#[45]⟩,.string ⟨#[43]⟩,.string ⟨#[126]⟩,.string ⟨#[126]⟩]
theorem X3(q:Nat)(h1:1<=q)(a:q<=4):Ae6[q]?=aL (.string ⟨(Fe (q:Int)).toArray⟩):=by
 match q,h1,a with
 | 1,_,_|2,_,_|3,_,_|4,_,_=>rfl
variable {g k:Nat}
def Qx(a:World)(D:List PChange)(n:Nat)(b i:Value)(wr:World):Prop:=∃(k:Nat) (t:ByteArray),i=.int .i64 (k:Int)/\k<=n/\b=.string t/\t.data.toList=(D.take k).flatMap (fun c=>tellC c++[10])/\Below a.heap.size a wr
def Na(a:World)(base:List UInt8)(ls:List PLine)(n:Nat)(b i:Value)(wr:World):Prop:=∃(j:Nat) (t:ByteArray),i=.int .i64 (j:Int)/\j<=n/\b=.string t/\t.data.toList=base++GN (ls.take j)/\Below a.heap.size a wr
def ChB(g:Nat)(q:Int)(k n y:ByteArray)(W:World):Prop:=W.cell? ⟨g,0,aO⟩=aL (.int .i64 q)/\W.cell? ⟨g,1,aO⟩=aL (.string k)/\W.cell? ⟨g,2,aO⟩=aL (.string n)/\W.cell? ⟨g,3,aO⟩=aL (.string y)
theorem ChB.V{q:Int}{k n y:ByteArray}(s:ChB g q k n y w)(a:Below w.heap.size w W):ChB g q k n y W:=⟨(a.cell (aA w _ s.1)).trans s.1,(a.cell (aA w _ s.2.1)).trans s.2.1,(a.cell (aA w _ s.2.2.1)).trans s.2.2.1,(a.cell (aA w _ s.2.2.2)).trans s.2.2.2⟩
def ChS(g:Nat)(q:Int)(k n y:ByteArray)(h o:Nat)(a:ByteArray)(W:World):Prop:=ChB g q k n y W/\W.cell? ⟨h,o,aO⟩=aL (.string a)
theorem Vg{a b:List UInt8}(h:AU a=.bad m (k:Int)):reportS a b=faultL Abf m (k:Int)++[10]:=by
 unfold reportS reportLs;rw[h];simp
theorem Td{a b:List UInt8}{x:List PBlock}(c:AU a=.good x)(h:AU b=.bad m (k:Int)):reportS a b=faultL Abg m (k:Int)++[10]:=by
 unfold reportS reportLs;rw[c,h];simp
theorem Te{a b:List UInt8}{x y:List PBlock}(d:AU a=.good x)(h:AU b=.good y):reportS a b=if diffS (fillS (AO x)) (fillS (AO y))=[] then YM++[10] else (diffS (fillS (AO x)) (fillS (AO y))).flatMap (fun c=>tellC c++[10]):=by
 unfold reportS reportLs;rw[d,h];simp only;split
 ·rename_i e;rw[e,if_pos rfl];simp
 ·rename_i e;rw[if_neg (fun f=>e f),List.flatMap_map]
theorem Nb(a b:ByteArray)(aw:a.size<=4000000)(c7:b.size<=4000000):Calls prog 41 #[.string a,.string b] w fun e w'=>IR (reportS a.data.toList b.data.toList) w e w':=by
 cases R:AU a.data.toList with
 | bad m c =>
  obtain⟨b6,d8,d9⟩:=CN R;obtain⟨k,rfl⟩:∃k:Nat,c=(k:Int):=⟨c.toNat,by omega⟩;rw[Vg R];have al:=MZ a (w:=w) aw R;have ea:((k:Int) != 0)=true:=by simp;omega
  clear R;go_enter func41,ntmps41;go_wp2_with (go_at_call 23;refine al.mono ?_)
  first|rintro e w1 rfl N|rintro e w1 ⟨rfl,N⟩
  obtain⟨Z,_,a2,a3⟩:=FH w1 (aC aO 0 0) (m:Int) (k:Int);have T:=N.trans (Z.mono N.size);have a4:=KG ⟨#[111,108,100]⟩ m k (w:=(w1.alloc (aB #[aC aO 0 0] 25)).alloc (aB #[.int .i64 (m:Int),.int .i64 (k:Int)] 38)) (by decide) b6 (by omega) (by omega);clear al Z N;generalize ai:(w1.alloc (aB #[aC aO 0 0] 25)).alloc (aB #[.int .i64 (m:Int),.int .i64 (k:Int)] 38)=W1 at *;go_wp2_with (go_at_call 103;(try rw[ai]);refine a4.mono ?_)
  rintro e w2 ⟨t,rfl,E,aa⟩;have b7:=Ab E;have aj:=T.trans (aa.mono T.size);clear ai a4 E;go_wp2;go_ret;exact⟨t,rfl,b7.out,aj⟩
 | good x =>
  have al:=KH a (w:=w) aw R;have b8:=Ab (Eg (CF R));cases ak:AU b.data.toList with
  | bad m c =>
   obtain⟨b6,d8,d9⟩:=CN ak;obtain⟨k,rfl⟩:∃k:Nat,c=(k:Int):=⟨c.toNat,by omega⟩;rw[Td R ak];have b9:=Ab ak;have ea:((k:Int) != 0)=true:=by simp;omega
   have eb:((0:Int) != 0)=false:=by decide
   clear R ak;go_enter func41,ntmps41;go_wp2_with (go_at_call 23;refine al.mono ?_)
   rintro e w1 ⟨xa,I,xc,ec,rfl,⟨br,bs⟩,N⟩;obtain⟨Z,_,a2,a3⟩:=FH w1 (aC xa I xc) 0 0;have T:=N.trans (Z.mono N.size);have a5:=MZ b (w:=(w1.alloc (aB #[aC xa I xc] 25)).alloc (aB #[.int .i64 0,.int .i64 0] 38)) c7 b9.out;clear al Z N br bs;generalize ai:(w1.alloc (aB #[aC xa I xc] 25)).alloc (aB #[.int .i64 0,.int .i64 0] 38)=W1 at *;have U:=Ab ai;clear ai;go_upto_region 2 with fail
   rw[U.out];clear U;go_wp2_with (go_at_call 23;refine a5.mono ?_)
   first|rintro e w2 rfl aa|rintro e w2 ⟨rfl,aa⟩
   obtain⟨ax,_,ed,ee⟩:=FH w2 (aC aO 0 0) (m:Int) (k:Int);have aj:=T.trans (aa.mono T.size);have c8:=aj.trans (ax.mono aj.size);have a4:=KG ⟨#[110,101,119]⟩ m k (w:=(w2.alloc (aB #[aC aO 0 0] 25)).alloc (aB #[.int .i64 (m:Int),.int .i64 (k:Int)] 38)) (by decide) b6 (by omega) (by omega);clear a5 ax aa aj T a2 a3;generalize a6:(w2.alloc (aB #[aC aO 0 0] 25)).alloc (aB #[.int .i64 (m:Int),.int .i64 (k:Int)] 38)=W2 at *;go_wp2_with (go_at_call 103;(try rw[a6]);refine a4.mono ?_)
   rintro e w3 ⟨t,rfl,E,ef⟩;have b7:=Ab E;have eg:=c8.trans (ef.mono c8.size);clear a6 a4 E;go_wp2;go_ret;exact⟨t,rfl,b7.out,eg⟩
  | good y =>
   have c9:=Ab (Te R ak);have cc:=Ab (Eg (CF ak));have b9:=Ab ak;generalize reportS a.data.toList b.data.toList=da at *;have eb:((0:Int) != 0)=false:=by decide
   clear R ak;go_enter func41,ntmps41;go_wp2_with (go_at_call 23;refine al.mono ?_)
   rintro e w1 ⟨xa,I,xc,ec,rfl,⟨br,bs⟩,N⟩;obtain⟨Z,k0,a2,a3⟩:=FH w1 (aC xa I xc) 0 0;have T:=N.trans (Z.mono N.size);have a5:=KH b (w:=(w1.alloc (aB #[aC xa I xc] 25)).alloc (aB #[.int .i64 0,.int .i64 0] 38)) c7 b9.out;have db:=Ab (bs.V Z);have dc:=Ab br;clear al Z N br bs;generalize ai:(w1.alloc (aB #[aC xa I xc] 25)).alloc (aB #[.int .i64 0,.int .i64 0] 38)=W1 at *;have U:=Ab ai;clear ai;go_upto_region 2 with fail
   rw[U.out];clear U;go_wp2_with (go_at_call 23;refine a5.mono ?_)
   rintro e w2 ⟨V,yn,yc,fj,rfl,⟨dd,de⟩,aa⟩;obtain⟨ax,df,ed,ee⟩:=FH w2 (aC V yn yc) 0 0;have bt:=aa.trans (ax.mono aa.size);have aj:=Ab (T.trans (bt.mono T.size));have eh:=Ab (de.V ax);have ei:=Ab (db.out.V bt);have dg:=Ab dd;have a7:=Ab (show X2 w1.heap.size w2.heap.size (aC xa I xc) (aC V yn yc) _ from⟨(bt.cell (aA _ _ k0)).trans k0,df⟩);clear a5 ax aa bt T k0 a2 a3 df dd de db;have U:=Ab (rfl:(w2.alloc (aB #[aC V yn yc] 25)).alloc (aB #[.int .i64 0,.int .i64 0] 38)=(w2.alloc (aB #[aC V yn yc] 25)).alloc (aB #[.int .i64 0,.int .i64 0] 38));generalize a6:(w2.alloc (aB #[aC V yn yc] 25)).alloc (aB #[.int .i64 0,.int .i64 0] 38)=W2 at *;clear U;have U:=Ab a6;clear a6;go_upto_region 5 with fail
   rw[U.out];clear U;have H:∀p:{ W:World // X2 w1.heap.size w2.heap.size (aC xa I xc) (aC V yn yc) W },p.1.cell? ⟨w1.heap.size,0,aO⟩=aL (aC xa I xc):=fun p=>p.2.1
   have t2:∀p:{ W:World // X2 w1.heap.size w2.heap.size (aC xa I xc) (aC V yn yc) W },p.1.cell? ⟨w2.heap.size,0,aO⟩=aL (aC V yn yc):=fun p=>p.2.2
   letI:Inhabited { W:World // X2 w1.heap.size w2.heap.size (aC xa I xc) (aC V yn yc) W }:=⟨⟨W2,a7.out⟩⟩;have ab:Below W2.heap.size W2 W2.drew:=(aF _ _).drew;have ac:=Tc ei.out (by rw[dc.out];exact b8.out) ab;rw[dc.out]at ac;go_upto_region 7 with fail
   refine AK (S:=X2 w1.heap.size w2.heap.size (aC xa I xc) (aC V yn yc)) 5 6 (by kernel_rfl) rfl ?_;refine A9 [true,false,true,false,false,false] 4 rfl (by kernel_rfl) (a7.out.V ab) ?_;simp only[AZ,Bc,AX];iterate 2 (refine A2 (fun K d=>?_);go_simp;refine d _ ?_;clear d K)
   refine A8 ?_;refine Af (f:=3) (rs:=[1]) (by kernel_rfl) (by simp) ?_;refine Ag.cons rfl (by decide) (fun K d=>?_) Ag.nil;go_simp;go_wp2_with (go_at_call 27;refine ac.mono ?_;rintro e fk ⟨fl,fm,ca,fn,rfl,cd,dh,di⟩)
   have a8:=ab.trans di;refine d.out _ _ (a7.out.V a8) ?_;clear d K;have X:=Tc eh.out (by rw[dg.out];exact cc.out) a8;rw[dg.out]at X;refine Af (f:=2) (rs:=[3]) (by kernel_rfl) (by simp) ?_;refine Ag.cons rfl (by decide) (fun K d=>?_) Ag.nil;go_simp;go_wp2_with (go_at_call 27;refine X.mono ?_;rintro e fo ⟨fp,fq,cb,fr,rfl,ce,dj,cf⟩)
   have bu:=a8.trans (cf.mono a8.size);refine d.out _ _ (a7.out.V bu) ?_;clear d K;have cg:=(PZ (dh.V cf) dj (Ey (by rw[cd,FQ b8.out];exact Fd b8.out)) (Ey (by rw[ce,FQ cc.out];exact Fd cc.out))).mono fun e w' h=>Ae4 h
   rw[cd,ce]at cg;refine Af (f:=1) (rs:=[4]) (by kernel_rfl) (by simp) ?_;refine Ag.cons rfl (by decide) (fun K d=>?_) Ag.nil;clear cd ce dh dj;go_simp;go_wp2_with (go_at_call 36;refine cg.mono ?_;rintro e ay ⟨fs,ad,ft,cs,rfl,⟨dk,dl,dm⟩,dn,dp⟩)
   have ch:=bu.trans (dp.mono bu.size);have dq:=Ab (aj.out.trans (ch.mono aj.out.size));refine d.out _ _ (a7.out.V ch) ?_;clear d K cg ac X H t2;have dr:=Ab dn;have ci:=Ab dk;have cj:=Ab dl;have ej:=Ab dm;clear dk dl dm dn dp ch cf bu di a8 ab;refine Bi (by kernel_rfl) rfl (by kernel_rfl) ?_;intro K d;go_simp;refine d.out _ _ (bI ?_);clear d K;have ek:=Ab (show ∀c∈diffS (fillS (AO x)) (fillS (AO y)),Xe c from fun c el=>M7 el);have em:=Ab (show ∀k,(((diffS (fillS (AO x)) (fillS (AO y))).take k).flatMap (fun c=>tellC c++[10])).length<=300000000 from fun k=>Vf k);have fu:ad<=780:=by
    have:=Ka (fillS (AO x)) (fillS (AO y));rw[<-ci.out,aI,cj.out]at this;exact this
   generalize diffS (fillS (AO x)) (fillS (AO y))=D at *;have ds:=Ab (show Qx ay D ad (.string ⟨#[]⟩) (.int .i64 0) ay from⟨0,⟨#[]⟩,rfl,by omega,rfl,by simp,aF _ _⟩);go_wp2;go_loopw [10,11] (fun a9 i wr=>Qx ay D ad a9 i wr) (fun _ i _=>ad-(intOf i).toNat)
   case atStart=>exact ds.out
   case round =>
    clear ds;obtain⟨k,t,rfl,fv,rfl,E,ae⟩:=hrel;by_cases fw:k<ad
    ·obtain⟨fx,c,fy,bv,ck⟩:=AC cs k (by have:=cj.out;omega);have cl:c∈cs:=by rw[bv];simp
     have P:=dr.out.1;rw[bv]at P;obtain⟨g,off,rfl,ba,bw,bx,d3,d4⟩:=P.change;rw[ck]at ba bw bx d3 d4;have bb:=dr.out.2 c cl;obtain⟨cm,cn,dt⟩:=bb.1.ad;rw[dt]at d4 bb;have co:D[k]?=aL c.I:=by rw[<-ci.out,bv,aQ,aH (by omega),ck,aW];rfl
     have Y:=ek.out c.I (List.mem_of_getElem? co);have cp:=ej.out c cl;have du:=Ab (show (D.take (k+1)).flatMap (fun c=>tellC c++[10])=t.data.toList++tellC c.I++[10] from by
      obtain⟨en,e⟩:=List.getElem?_eq_some_iff.1 co;rw[List.take_succ_eq_append_getElem en,List.flatMap_append,List.flatMap_singleton,e,E,aJ])
     have fz:t.size<=300000000:=by rw[<-AP,E];exact em.out k
     obtain⟨q,dv⟩:∃q:Nat,c.what=(q:Int):=⟨c.what.toNat,by have h1:1<=c.what:=Y.1.1;omega⟩;have eo:1<=q:=by have h1:1<=c.what:=Y.1.1;omega
     have ep:q<=4:=by have h1:c.what<=4:=Y.1.2;omega
     have eq:c.aa.size<=200:=by have:=Y.2.1;rw[AP]at this;exact this
     have er:c.name.size<=200:=by have:=Y.2.2.1;rw[AP]at this;exact this
     have es:c.key.size<=200:=by have:=Y.2.2.2.1;rw[AP]at this;exact this
     have cq:=Ab (show tellC c.I=frontC c.I++noC c.I++GN (c.ls.map LAt.I) from rfl);have cr:=Ab (show ∀j,(GN ((c.ls.map LAt.I).take j)).length<=2102*120 from fun j=>by
      have h1:(c.ls.map LAt.I).length<=120:=Y.2.2.2.2.1;have az:=Pw (ls:=(c.ls.map LAt.I).take j) (fun a aw=>Y.2.2.2.2.2 a (aX aw));have ct:((c.ls.map LAt.I).take j).length<=120:=by rw[bB];omega
      have et:2102*((c.ls.map LAt.I).take j).length<=2102*120:=aZ _ ct;omega)
     have bc:=Ab (show ∀a∈c.ls,(lineL a.I).length<=2100 from fun a aw=>Y.2.2.2.2.2 a.I (aS aw));obtain⟨f0,l,n,o,bd,r⟩:=c;simp only at ba bw bx d3 d4 dv eq er es bb cp cq cr bc;subst dv;have eu:=Ab (show frontC (Bl.I ⟨(q:Int),l,n,o,bd,r⟩)=Fe (q:Int)++32::l.data.toList++32::n.data.toList from rfl);have dw:=Ab (show noC (Bl.I ⟨(q:Int),l,n,o,bd,r⟩)=if (q:Int)=4 then [58,32,110,111,32]++o.data.toList else [] from rfl);have be:=aA ay _ ba;have bf:=(ae.cell (p:=⟨g,off+k*5,aO⟩) be).trans ba;have bg:=(ae.cell (p:=⟨g,off+k*5+1,aO⟩) be).trans bw;have bh:=(ae.cell (p:=⟨g,off+k*5+2,aO⟩) be).trans bx;have ev:=(ae.cell (p:=⟨g,off+k*5+3,aO⟩) be).trans d3;have bi:=(ae.cell (p:=⟨g,off+k*5+4,aO⟩) be).trans d4;have a2:(0:Int)<=(k:Int):=by omega
     have a3:(k:Int)<(ad:Int):=by omega
     have dx:=Ab bb;have bj:=Ab cp;clear bb cp P bv ck cl co Y ba bw bx d3 d4 dt E;generalize tellC (Bl.I ⟨(q:Int),l,n,o,bd,r⟩)=f1 at *;generalize frontC (Bl.I ⟨(q:Int),l,n,o,bd,r⟩)=J at *;generalize noC (Bl.I ⟨(q:Int),l,n,o,bd,r⟩)=O at *;generalize dy:r.length=nl at *;have bk:=Ab dy;clear dy;have dz:=(aF wr.heap.size wr).alloc (aE _) (aB #[.int .i64 (q:Int),.string l,.string n,.string o,aC cm nl cn] 93);have bl:=BB.new wr #[.int .i64 (q:Int),.string l,.string n,.string o,aC cm nl cn] 93;have cu:=ae.trans (dz.mono ae.size);go_upto_region 13 with fail
     generalize wr.alloc (aB #[.int .i64 (q:Int),.string l,.string n,.string o,aC cm nl cn] 93)=v at *;generalize wr.heap.size=F at *;clear bf bg bh ev bi dz;have cv:=Aa bl 0;have cw:=Aa bl 1;have cx:=Aa bl 2;have cy:=Aa bl 3;have bz:=Aa bl 4;simp only[aP,aM,aN]at cv cw cx cy bz;have b0:=Ab (show ChB F (q:Int) l n o v from⟨cv,cw,cx,cy⟩);have ab:Below v.heap.size v v.drew:=(aF _ _).drew;have d0:=(aF v.drew.heap.size v.drew).alloc (aE _) (aB #[.string ⟨#[]⟩,.string ⟨#[45]⟩,.string ⟨#[43]⟩,.string ⟨#[126]⟩,.string ⟨#[126]⟩] 9);have d1:=BB.new v.drew #[.string ⟨#[]⟩,.string ⟨#[45]⟩,.string ⟨#[43]⟩,.string ⟨#[126]⟩,.string ⟨#[126]⟩] 9;obtain⟨B,cz⟩:∃B:ByteArray,B=⟨(Fe (q:Int)).toArray⟩:=⟨_,rfl⟩;have c0:B.data.toList=Fe (q:Int):=by rw[cz]
     have f2:B.size<=1:=by
      rw[<-AP,c0];unfold Fe;split
      ·exact aE _
      ·split <;> exact aE _
     have b1:=(Aa d1 q).trans (X3 q eo ep);rw[<-cz]at b1;have ew:=Ab c0;clear cz c0;have c1:=ab.trans (d0.mono ab.size);have a0:=Ab (b0.out.V c1);have t0:∀p:{ W:World // ChB F (q:Int) l n o W },p.1.cell? ⟨F,0,aO⟩=aL (.int .i64 (q:Int)):=fun p=>p.2.1
     have H:∀p:{ W:World // ChB F (q:Int) l n o W },p.1.cell? ⟨F,1,aO⟩=aL (.string l):=fun p=>p.2.2.1
     have t2:∀p:{ W:World // ChB F (q:Int) l n o W },p.1.cell? ⟨F,2,aO⟩=aL (.string n):=fun p=>p.2.2.2.1
     letI ex:Inhabited { W:World // ChB F (q:Int) l n o W }:=⟨⟨v,b0.out⟩⟩;have v0:∀p:{ W:World // ChS F (q:Int) l n o v.heap.size q B W },p.1.cell? ⟨v.heap.size,q,aO⟩=aL (.string B):=fun p=>p.2.2
     letI ey:Inhabited { W:World // ChS F (q:Int) l n o v.heap.size q B W }:=⟨⟨_,a0.out,b1⟩⟩;have d2:=Ab (show ChS F (q:Int) l n o v.heap.size q B _ from⟨a0.out,b1⟩);have d5:(0:Int)<=(q:Int):=by omega
     have i2:(q:Int)<5:=by omega
     have am:¬ 9223372036854775807<t.size+B.size:=by omega
     have bm:¬ 9223372036854775807<t.size+B.size+1:=by omega
     have ez:¬ 9223372036854775807<t.size+B.size+1+l.size:=by omega
     have e0:¬ 9223372036854775807<t.size+B.size+1+l.size+1:=by omega
     have e1:¬ 9223372036854775807<t.size+B.size+1+l.size+1+n.size:=by omega
     refine AK (S:=ChB F (q:Int) l n o) 15 16 (by kernel_rfl) rfl ?_;refine A9 [true,false,true,true,false,false,false,false,true,true,false,false,true,true,false,false] 9 rfl (by kernel_rfl) (b0.out.V ab) ?_;simp only[AZ,Bc,AX];iterate 7 (refine A2 (fun K d=>?_);go_simp;refine d _ ?_;clear d K)
     refine A8 ?_;clear t0 H t2;refine Af (f:=8) (rs:=[1]) (by kernel_rfl) (by simp) ?_;refine Ag.cons rfl (by decide) (fun K d=>?_) Ag.nil;go_simp;refine d.out _ _ a0.out ?_;clear d K;refine IM (S':=ChS F (q:Int) l n o v.heap.size q B) (fun u L=>L.1) ?_;refine A9 [false,false,false,false,true,true,true,true,false,false,true,true,false,false,true,false] 1 rfl (by kernel_rfl) d2.out ?_;simp only[AZ,Bc,AX];iterate 7 (refine A2 (fun K d=>?_);go_simp;refine d _ ?_;clear d K)
     refine A8 ?_;clear v0;refine Bi (by kernel_rfl) rfl (by kernel_rfl) ?_;intro K d;go_simp;refine d.out _ _ (bI ?_);clear d K;have c2:Below v.heap.size v (v.alloc (aB #[.string ⟨#[]⟩,.string ⟨#[45]⟩,.string ⟨#[43]⟩,.string ⟨#[126]⟩,.string ⟨#[126]⟩] 9)).drew:=c1;have f3:(v.alloc (aB #[.string ⟨#[]⟩,.string ⟨#[45]⟩,.string ⟨#[43]⟩,.string ⟨#[126]⟩,.string ⟨#[126]⟩] 9)).drew.cell? ⟨F,0,aO⟩=aL (.int .i64 (q:Int)):=a0.out.1;have f4:(v.alloc (aB #[.string ⟨#[]⟩,.string ⟨#[45]⟩,.string ⟨#[43]⟩,.string ⟨#[126]⟩,.string ⟨#[126]⟩] 9)).drew.cell? ⟨F,3,aO⟩=aL (.string o):=a0.out.2.2.2;have e2:=(c2.cell (aA _ _ bz)).trans bz;have d6:=cu.trans (c2.mono cu.size);have b2:=Ab e2;clear ex ey d1 b1 d2 c1 c2 d0 ab cv cw cx cy bz b0 a0 cu;generalize (v.alloc (aB #[.string ⟨#[]⟩,.string ⟨#[45]⟩,.string ⟨#[43]⟩,.string ⟨#[126]⟩,.string ⟨#[126]⟩] 9)).drew=C at *;have ac:=Ab (show (t++B++⟨#[32]⟩++l++⟨#[32]⟩++n).data.toList=t.data.toList++J from by rw[eu.out,<-ew.out];simp);obtain⟨H,c3⟩:∃H,t++B++⟨#[32]⟩++l++⟨#[32]⟩++n=H:=⟨_,rfl⟩;have f5:H.size<=300001000:=by
      have f6:(⟨#[32]⟩:ByteArray).size=1:=rfl;rw[<-c3];simp only[bC];omega
     rw[c3]at ac⊢;clear c3 am bm ez e0 e1;have b3:=Ab (show ∀t2:ByteArray,t2.data.toList=t.data.toList++J++O->Na C (t.data.toList++J++O) (r.map LAt.I) nl (.string t2) (.int .i64 0) C from fun t2 az=>⟨0,t2,rfl,by omega,rfl,by rw[az];simp[GN],aF _ _⟩);have a1:=Ab d6;have f7:nl<=1048576:=by have:=bj.out.1;rw[bk.out]at this;exact this
     clear d6 ae;by_cases et:q=4
     ·have bi:((q:Int)==4)=true:=by simp;omega
      have X:=Ab (show (H++⟨#[58,32,110,111,32]⟩++o).data.toList=t.data.toList++J++O from by rw[dw.out,if_pos (by omega),<-ac.out];simp);have am:¬ 9223372036854775807<H.size+5:=by omega
      have bm:¬ 9223372036854775807<H.size+5+o.size:=by omega
      go_upto_region 16 with fail
      obtain⟨t2,c4⟩:∃t2,H++⟨#[58,32,110,111,32]⟩++o=t2:=⟨_,rfl⟩;have e3:t2.size<=300002000:=by
       have f8:(⟨#[58,32,110,111,32]⟩:ByteArray).size=5:=rfl;rw[<-c4];simp only[bC];omega
      rw[c4]at X⊢;clear c4 am bm bi;have bn:=Ab (b3.out t2 X.out);clear b3 ac;go_wp2;go_loopw [10,13] (fun a9 i wr=>Na C (t.data.toList++J++O) (r.map LAt.I) nl a9 i wr) (fun _ i _=>nl-(intOf i).toNat)
      case atStart=>exact bn.out
      case round =>
       clear bn;obtain⟨j,u,rfl,e4,rfl,L,G⟩:=hrel;have e5:=(G.cell (aA _ _ b2.out)).trans b2.out;have e6:u.size<=300260000:=by
        have h1:=congrArg aY L;have az:=congrArg aY X.out;have ct:=cr.out j;rw[aD,<-az,AP,AP]at h1;omega
       by_cases e7:j<nl
       ·obtain⟨e8,s,e9,af,an⟩:=AC r j (by have:=bk.out;omega);have M:s∈r:=by rw[af];simp
        have ao:=(dx.out.V a1.out).V G;have P:=ao.1;rw[af]at P;obtain⟨fa,fb,rfl,c5,bo⟩:=P.ai;rw[an]at c5 bo;have ap:=ao.2 s M;obtain⟨fc,fd,bp⟩:=Am.ad ap;have ag:=IK ap (aG (bc.out s M) (by decide)) (bj.out.2 s M).1 (bj.out.2 s M).2;rw[bp]at bo ag;obtain⟨A,aq⟩:∃A:ByteArray,A=⟨(lineL s.I).toArray⟩:=⟨_,rfl⟩;have ar:A.data.toList=lineL s.I:=by rw[aq]
        have fe:A.size<=2100:=by rw[<-AP,ar];exact bc.out s M
        rw[<-aq]at ag;have bq:=Ab (show (t.data.toList++J++O)++GN ((r.map LAt.I).take (j+1))=u.data.toList++(if j=0 then [58,32] else [44,32])++A.data.toList from by
         rw[Hz _ j s.I (by rw[af,aQ,aH (by omega),an,aW];rfl),L,ar];simp only[aJ])
        have d5:(0:Int)<=(j:Int):=by omega
        have i2:(j:Int)<(nl:Int):=by omega
        have am:¬ 9223372036854775807<u.size+2:=by omega
        have bm:¬ 9223372036854775807<u.size+2+A.size:=by omega
        clear aq ar P ap ao af an M bp L;generalize s.key=ff at *;generalize s.ws.length=fg at *;by_cases ah:j=0
        ·have bf:((j:Int)==0)=true:=by simp;omega
         have Q:=Ab (show ∀z,Below C.heap.size C z->Na C (t.data.toList++J++O) (r.map LAt.I) nl (.string (u++⟨#[58,32]⟩++A)) (.int .i64 ((j:Int)+1)) z from fun z au=>⟨j+1,_,by rw[aK];rfl,by omega,rfl,by rw[bq.out,if_pos ah];simp,au⟩);clear ah;go_wp2_with (go_at_call 88;refine ag.mono ?_;rintro e z ⟨rfl,av⟩)
         go_roundw;case rel=>exact Q.out _ (G.trans (av.mono G.size))
         case measure=>simp[intOf];omega
        ·have bf:((j:Int)==0)=false:=by rw[beq_eq_false_iff_ne];omega
         have Q:=Ab (show ∀z,Below C.heap.size C z->Na C (t.data.toList++J++O) (r.map LAt.I) nl (.string (u++⟨#[44,32]⟩++A)) (.int .i64 ((j:Int)+1)) z from fun z au=>⟨j+1,_,by rw[aK];rfl,by omega,rfl,by rw[bq.out,if_neg ah];simp,au⟩);clear ah;go_wp2_with (go_at_call 88;refine ag.mono ?_;rintro e z ⟨rfl,av⟩)
         go_roundw;case rel=>exact Q.out _ (G.trans (av.mono G.size))
         case measure=>simp[intOf];omega
       ·obtain rfl:j=nl:=by omega
        have am:¬ 9223372036854775807<u.size+1:=by omega
        have Q:=Ab (show Qx ay D ad (.string (u++⟨#[10]⟩)) (.int .i64 ((k:Int)+1)) wr from⟨k+1,_,by rw[aK];rfl,by omega,rfl,by
         have bg:(r.map LAt.I).take j=r.map LAt.I:=by rw[<-bk.out,<-aI (f:=LAt.I),aR]
         rw[du.out,cq.out,show (u++⟨#[10]⟩:ByteArray).data.toList=u.data.toList++[10] by simp,L,bg];simp only[aJ],a1.out.trans (G.mono a1.out.size)⟩)
        clear L;go_wp2;go_roundw;case rel=>exact Q.out
        case measure=>simp[intOf];omega
     ·have bi:((q:Int)==4)=false:=by rw[beq_eq_false_iff_ne];omega
      have X:=Ab (show H.data.toList=t.data.toList++J++O from by rw[dw.out,if_neg (by omega),<-ac.out];simp);have e3:H.size<=300002000:=by omega
      go_upto_region 16 with fail
      clear bi;have bn:=Ab (b3.out H X.out);clear b3 ac;go_wp2;go_loopw [10,13] (fun a9 i wr=>Na C (t.data.toList++J++O) (r.map LAt.I) nl a9 i wr) (fun _ i _=>nl-(intOf i).toNat)
      case atStart=>exact bn.out
      case round =>
       clear bn;obtain⟨j,u,rfl,e4,rfl,L,G⟩:=hrel;have e5:=(G.cell (aA _ _ b2.out)).trans b2.out;have e6:u.size<=300260000:=by
        have h1:=congrArg aY L;have az:=congrArg aY X.out;have ct:=cr.out j;rw[aD,<-az,AP,AP]at h1;omega
       by_cases e7:j<nl
       ·obtain⟨e8,s,e9,af,an⟩:=AC r j (by have:=bk.out;omega);have M:s∈r:=by rw[af];simp
        have ao:=(dx.out.V a1.out).V G;have P:=ao.1;rw[af]at P;obtain⟨fa,fb,rfl,c5,bo⟩:=P.ai;rw[an]at c5 bo;have ap:=ao.2 s M;obtain⟨fc,fd,bp⟩:=Am.ad ap;have ag:=IK ap (aG (bc.out s M) (by decide)) (bj.out.2 s M).1 (bj.out.2 s M).2;rw[bp]at bo ag;obtain⟨A,aq⟩:∃A:ByteArray,A=⟨(lineL s.I).toArray⟩:=⟨_,rfl⟩;have ar:A.data.toList=lineL s.I:=by rw[aq]
        have fe:A.size<=2100:=by rw[<-AP,ar];exact bc.out s M
        rw[<-aq]at ag;have bq:=Ab (show (t.data.toList++J++O)++GN ((r.map LAt.I).take (j+1))=u.data.toList++(if j=0 then [58,32] else [44,32])++A.data.toList from by
         rw[Hz _ j s.I (by rw[af,aQ,aH (by omega),an,aW];rfl),L,ar];simp only[aJ])
        have d5:(0:Int)<=(j:Int):=by omega
        have i2:(j:Int)<(nl:Int):=by omega
        have am:¬ 9223372036854775807<u.size+2:=by omega
        have bm:¬ 9223372036854775807<u.size+2+A.size:=by omega
        clear aq ar P ap ao af an M bp L;generalize s.key=ff at *;generalize s.ws.length=fg at *;by_cases ah:j=0
        ·have bf:((j:Int)==0)=true:=by simp;omega
         have Q:=Ab (show ∀z,Below C.heap.size C z->Na C (t.data.toList++J++O) (r.map LAt.I) nl (.string (u++⟨#[58,32]⟩++A)) (.int .i64 ((j:Int)+1)) z from fun z au=>⟨j+1,_,by rw[aK];rfl,by omega,rfl,by rw[bq.out,if_pos ah];simp,au⟩);clear ah;go_wp2_with (go_at_call 88;refine ag.mono ?_;rintro e z ⟨rfl,av⟩)
         go_roundw;case rel=>exact Q.out _ (G.trans (av.mono G.size))
         case measure=>simp[intOf];omega
        ·have bf:((j:Int)==0)=false:=by rw[beq_eq_false_iff_ne];omega
         have Q:=Ab (show ∀z,Below C.heap.size C z->Na C (t.data.toList++J++O) (r.map LAt.I) nl (.string (u++⟨#[44,32]⟩++A)) (.int .i64 ((j:Int)+1)) z from fun z au=>⟨j+1,_,by rw[aK];rfl,by omega,rfl,by rw[bq.out,if_neg ah];simp,au⟩);clear ah;go_wp2_with (go_at_call 88;refine ag.mono ?_;rintro e z ⟨rfl,av⟩)
         go_roundw;case rel=>exact Q.out _ (G.trans (av.mono G.size))
         case measure=>simp[intOf];omega
       ·obtain rfl:j=nl:=by omega
        have am:¬ 9223372036854775807<u.size+1:=by omega
        have Q:=Ab (show Qx ay D ad (.string (u++⟨#[10]⟩)) (.int .i64 ((k:Int)+1)) wr from⟨k+1,_,by rw[aK];rfl,by omega,rfl,by
         have bg:(r.map LAt.I).take j=r.map LAt.I:=by rw[<-bk.out,<-aI (f:=LAt.I),aR]
         rw[du.out,cq.out,show (u++⟨#[10]⟩:ByteArray).data.toList=u.data.toList++[10] by simp,L,bg];simp only[aJ],a1.out.trans (G.mono a1.out.size)⟩)
        clear L;go_wp2;go_roundw;case rel=>exact Q.out
        case measure=>simp[intOf];omega
    ·obtain rfl:k=ad:=by omega
     have fh:D.take k=D:=by rw[<-ci.out,<-cj.out,<-aI (f:=Bl.I),aR]
     rw[fh]at E;have b4:=dq.out.trans (ae.mono dq.out.size);by_cases b5:D=[]
     ·have fi:t=⟨#[]⟩:=by
       have:t.data.toList=[]:=by rw[E,b5];rfl
       exact Ac9 this
      have c6:=Ab (show IR da w (aU (.string ⟨#[116,104,101,32,115,97,109,101,10]⟩)) wr from⟨_,rfl,by rw[c9.out,if_pos b5];rfl,b4⟩);subst fi;clear E b4;go_wp2;go_ret;exact c6.out
     ·have c6:=Ab (show IR da w (aU (.string t)) wr from⟨_,rfl,by rw[c9.out,if_neg b5];exact E,b4⟩);have f9:(t.toList==[])=false:=by
       rw[beq_eq_false_iff_ne];intro e;have bh:t.data.toList=[]:=by rw[<-ByteArray.toList_eq];exact e
       rw[E]at bh;cases d7:D with
       | nil=>exact b5 d7
       | cons c ga =>
        rw[d7]at bh;simp at bh
      clear E b4;go_wp2;go_ret;exact c6.out
def Tf(B:Nat)(base:List UInt8)(ls:List PLine)(n:Nat)(W0:World)(a i:Value)(wr:World):Prop:=∃j:Nat,i=.int .i64 (j:Int)/\j<=n/\a=.string (if j=0 then ⟨#[58,32]⟩ else ⟨#[44,32]⟩)/\Dz B B (base++GN (ls.take j)) W0 wr
theorem Nc{c:Bl}(Z:Ap w c.v c.ls)(L:Xe c.I)(au:Aj c.ls):Calls prog 162 #[bF #[.int .i64 c.what,.string c.aa,.string c.name,.string c.key,c.v]] w fun e w'=>IR (tellC c.I) w e w':=by
 have a2:=Ab (show ∀j,(GN ((c.ls.map LAt.I).take j)).length<=2102*120 from fun j=>by
  have h1:(c.ls.map LAt.I).length<=120:=L.2.2.2.2.1;have cu:=Pw (ls:=(c.ls.map LAt.I).take j) (fun a a3=>L.2.2.2.2.2 a (aX a3));have b2:((c.ls.map LAt.I).take j).length<=120:=by rw[bB];omega
  have O:2102*((c.ls.map LAt.I).take j).length<=2102*120:=aZ _ b2;omega)
 have a4:=Ab (show ∀a∈c.ls,(lineL a.I).length<=2100 from fun a a3=>L.2.2.2.2.2 a.I (aS a3));have a5:=Ab (show tellC c.I=frontC c.I++noC c.I++GN (c.ls.map LAt.I) from rfl);have a6:=O3 L;have b3:c.aa.size<=200:=by have:=L.2.1;rw[AP]at this;exact this
 have b4:c.name.size<=200:=by have:=L.2.2.1;rw[AP]at this;exact this
 have b5:c.key.size<=200:=by have:=L.2.2.2.1;rw[AP]at this;exact this
 have bq:=Ab (YL c.I);obtain⟨m,n,u,o,b6,b⟩:=c;have Z:Ap w b6 b:=Z;obtain⟨D,E,rfl⟩:=Z.1.ad;have b7:=Ab (show frontC (Bl.I ⟨m,n,u,o,aC D b.length E,b⟩)=Fe m++32::n.data.toList++32::u.data.toList from rfl);have br:=Ab (show noC (Bl.I ⟨m,n,u,o,aC D b.length E,b⟩)=if m=4 then [58,32,110,111,32]++o.data.toList else [] from rfl);simp only at b3 b4 b5 Z au a2 a4 a5;have bs:=Ab au;have cv:=au.1;have ad:=(aF w.heap.size w).alloc (aE _) (aB #[.int .i64 m,.string n,.string u,.string o,aC D b.length E] 93);have aa:=BB.new w #[.int .i64 m,.string n,.string u,.string o,aC D b.length E] 93;have ab:=Ab (Z.V ad);clear Z au L;generalize tellC (Bl.I ⟨m,n,u,o,aC D b.length E,b⟩)=cw at *;generalize frontC (Bl.I ⟨m,n,u,o,aC D b.length E,b⟩)=M at *;generalize noC (Bl.I ⟨m,n,u,o,aC D b.length E,b⟩)=F at *;generalize bt:b.length=nl at *;have av:=Ab bt;clear bt;generalize bu:w.alloc (aB #[.int .i64 m,.string n,.string u,.string o,aC D nl E] 93)=w1 at *;have bv:=Ab bu;clear bu;have ac:=Aa aa 0;have aw:=Aa aa 1;have ax:=Aa aa 2;have ay:=Aa aa 3;have az:=Aa aa 4;simp only[aP,aM,aN]at ac aw ax ay az;have a0:=Ab (show ∀W,Below w1.heap.size w1 W->(W.cell? ⟨w.heap.size,0,aO⟩=aL (.int .i64 m)/\W.cell? ⟨w.heap.size,3,aO⟩=aL (.string o)/\W.cell? ⟨w.heap.size,4,aO⟩=aL (aC D nl E)) from fun W a7=>⟨(a7.cell (aA _ _ ac)).trans ac,(a7.cell (aA _ _ ay)).trans ay,(a7.cell (aA _ _ az)).trans az⟩);have b8:=X4 w1;have q:Below w1.heap.size w1 (w1.alloc (aB #[bM aO,aC aO 0 0] 102)):=(aF _ _).alloc (aE _) _;have bw:=(q.cell (aA _ _ ac)).trans ac;have bx:=(q.cell (aA _ _ aw)).trans aw;have bz:=(q.cell (aA _ _ ax)).trans ax;clear ac aw ax ay az aa;obtain⟨C,a8⟩:∃C:ByteArray,C=⟨(Fe m).toArray⟩:=⟨_,rfl⟩;have a9:=fun W=>MU m W
 simp only[<-a8]at a9;have ba:C.data.toList=Fe m:=by rw[a8]
 have cx:C.size<=1:=by
  rw[<-AP,ba];unfold Fe;split
  ·exact aE _
  ·split <;> exact aE _
 have b9:=Ab ba;clear a8 ba;have b0:¬ 9223372036854775807<C.size+1:=by omega
 have ca:¬ 9223372036854775807<C.size+1+n.size:=by omega
 have cb:¬ 9223372036854775807<C.size+1+n.size+1:=by omega
 have cc:¬ 9223372036854775807<C.size+1+n.size+1+u.size:=by omega
 go_enter func162,ntmps162;go_upto_region 1 with fail
 rw[bv.out];clear bv;go_upto_region 2 with fail
 have cy:(w1.alloc (aB #[bM aO,aC aO 0 0] 102)).heap.size=w1.heap.size+1:=by simp
 generalize cd:w1.alloc (aB #[bM aO,aC aO 0 0] 102)=w2 at *;clear cd;have k0:=fun p:Gr w2=>Aq bw p
 have ce:=fun p:Gr w2=>Aq bx p
 have cf:=fun p:Gr w2=>Aq bz p
 refine Fb 12 (by kernel_rfl) rfl rfl (by kernel_rfl) ?_;simp only[List.take_succ_cons,List.take_zero];iterate 3 quiet_step (fail)
 quiet_step ((go_at_call 217;refine CD (a9 _)))
 iterate 8 quiet_step (fail)
 refine wpQuiet_nil ?_;intro p K b1;go_simp;have bb:(C++⟨#[32]⟩++n++⟨#[32]⟩++u:ByteArray).data.toList=M:=by rw[b7.out,<-b9.out];simp
 generalize (C++⟨#[32]⟩++n++⟨#[32]⟩++u:ByteArray)=hd at *;have ae:w1.heap.size<=w2.heap.size:=by omega
 refine(D3 _ (b8.gr p.h) (by rw[bb];show 0+_<=_;omega) (aG ae p.h.size)).mono ?_;rintro e w3 ⟨rfl,W3⟩;refine b1 _ _ ?_;rw[bb,List.nil_append]at W3;have N:=Dz.gr ae p.h W3;have c0:=(a0.out w3 (q.trans (N.2.1))).1;clear b1 K k0 ce cf W3 b0 ca cb cc bb bw bx bz a9;have a1:=Ab (show ∀W,Dz w1.heap.size w1.heap.size (M++F) w2 W->Tf w1.heap.size (M++F) (b.map LAt.I) nl w2 (.string ⟨#[58,32]⟩) (.int .i64 0) W from fun W h=>⟨0,rfl,by omega,rfl,by simpa [GN] using h⟩);have cz:=a6.1;have c1:=a6.2;clear a6;by_cases O:m=4
 ·have bc:(m==4)=true:=by simp[O]
  have c3:=(a0.out w3 (q.trans (N.2.1))).2.1;have b0:¬ 9223372036854775807<5+o.size:=by omega
  have bd:(⟨#[58,32,110,111,32]⟩++o:ByteArray).data.toList=F:=by rw[br.out,if_pos O];simp
  have be:=D3 (⟨#[58,32,110,111,32]⟩++o) N.1 (by rw[bd];omega) (aG ae N.2.1.size);rw[bd]at be;clear bd O;go_wp2_with (go_at_call 101;refine be.mono ?_)
  first|rintro e cg rfl W4|rintro e cg ⟨rfl,W4⟩
  have P:=N.trans W4;clear be W4 N c0 c3 bc;have af:=Ab (a1.out _ P);have c4:=(a0.out _ (q.trans (P.2.1))).2.2;clear a1 P;go_wp2;go_loopw [4,31] (fun d i wr=>Tf w1.heap.size (M++F) (b.map LAt.I) nl w2 d i wr) (fun _ i _=>nl-(intOf i).toNat)
  case atStart=>exact af.out
  case round =>
   clear af c4;obtain⟨j,rfl,ch,rfl,g⟩:=hrel;have ag:w1.heap.size<=wr.heap.size:=aG ae g.2.1.size;have ci:=a2.out j;by_cases cj:j<nl
   ·obtain⟨ck,k,cl,G,Q⟩:=AC b j (by have:=av.out;omega);have v:k∈b:=by rw[G];simp
    have R:=ab.out.1;rw[G]at R;obtain⟨cm,cn,rfl,H,I⟩:=R.ai;rw[Q]at H I;have ah:=q.trans g.2.1;have co:=(ah.cell (aA w1 _ H)).trans H;have bf:=(ah.cell (aA w1 _ I)).trans I;obtain⟨x,y,ai⟩:=Am.ad (ab.out.2 k v);have S:=bs.out.2 k v;have cp:=a4.out k v;have T:=fun(W:World) (t:List UInt8) (bg:Below w1.heap.size w1 W) (bh:VQ w1.heap.size w1.heap.size t W) bi=>Iu rfl (ab.out.2 k v) bg bh bi S.1 S.2
    rw[ai]at T bf;have bj:=Ab T;have bk:=Ab (Hz (b.map LAt.I) j k.I (by rw[G,aQ,aH (by omega),Q,aW];rfl));clear R G Q v ai H I S T;generalize lineL k.I=cq at *;generalize k.key=z at *;generalize k.ws.length=A at *;have J:Below wr.heap.size wr (wr.alloc (aB #[.string z,aC x A y] 115)):=(aF wr.heap.size wr).alloc (aE _) _;have aj:(wr.alloc (aB #[.string z,aC x A y] 115)).heap[wr.heap.size]?=aL (aB #[.string z,aC x A y] 115):=by unfold bK;simp
    have bl:=g.1.lt;have ak:aL wr.heap.size≠aL w1.heap.size:=by intro e;have:=aT e;omega
    have al:∀c am,(Obj.cells #[.string z,aC x A y] 115)≠aB c 5 am:=by intro c am e;cases e
    have cr:(0:Int)<=(j:Int):=by omega
    have i2:(j:Int)<(nl:Int):=by omega
    obtain⟨d,r⟩:∃d:ByteArray,d=(if j=0 then ⟨#[58,32]⟩ else ⟨#[44,32]⟩):=⟨_,rfl⟩;have U:d.data.toList=if j=0 then [58,32] else [44,32]:=by rw[r];split <;> rfl
    have cs:d.data.toList.length<=2:=by rw[U];split <;> exact aE _
    rw[<-r];have bm:=Ab U;clear r U;obtain⟨v1,ct,an,B⟩:=Js d (g.1.gr J) (by rw[aD,aD];omega) (aG ag J.size);go_wp2_with (go_at_call 101;refine B.mono ?_)
    first|rintro e s rfl l|rintro e s ⟨rfl,l⟩
    have V:=l.2.2 _ _ aj ak al;have d3:s.cell? ⟨wr.heap.size,0,aO⟩=aL (.string z):=by rw[aV V];rfl
    have d4:s.cell? ⟨wr.heap.size,1,aO⟩=aL (aC x A y):=by rw[aV V];rfl
    have X:=g.trans (Dz.gr ag J l);have ao:=bj.out s _ (q.trans X.2.1) l.1 (by rw[an.out,aD,aD,aD];omega);clear B aj ak al V l J bl;go_wp2_with (go_at_call 137;refine ao.mono ?_)
    first|rintro e ap rfl Y|rintro e ap ⟨rfl,Y⟩
    have bn:=Ab (show Tf w1.heap.size (M++F) (b.map LAt.I) nl w2 (.string ⟨#[44,32]⟩) (.int .i64 ((j:Int)+1)) ap from⟨j+1,by rw[aK];rfl,by omega,by rw[if_neg (by omega)],by
     have aq:=X.trans Y;rw[an.out,bm.out]at aq;rw[bk.out];simpa only[aJ] using aq⟩)
    clear ao Y X;go_wp2;go_roundw;case rel=>exact bn.out
    case measure=>simp[intOf];omega
   ·obtain⟨d,r⟩:∃d:ByteArray,d=(if j=0 then ⟨#[58,32]⟩ else ⟨#[44,32]⟩):=⟨_,rfl⟩;rw[<-r];clear r;obtain rfl:j=nl:=by omega
    have ar:(b.map LAt.I).take j=b.map LAt.I:=by rw[<-av.out,<-aI (f:=LAt.I),aR]
    rw[ar,<-a5.out]at g;have B:=KI g.1 bq.out;have bo:=Ab g;clear g ar;go_wp2_with (go_at_call 71;refine B.mono ?_)
    first|rintro e s rfl l|rintro e s ⟨rfl,l⟩
    have bp:=Ab (ad.trans (((q.trans bo.out.2.1).trans l.2.1).mono ad.size));clear B l;go_wp2;go_ret;exact⟨_,rfl,rfl,bp.out⟩
 ·have bc:(m==4)=false:=by simpa using O
  have P:Dz w1.heap.size w1.heap.size (M++F) w2 w3:=by
   have e:F=[]:=by rw[br.out,if_neg O]
   rw[e,List.append_nil];exact N
  clear O N;go_upto_region 5 with fail
  clear bc c0;have af:=Ab (a1.out _ P);have c4:=(a0.out _ (q.trans (P.2.1))).2.2;clear a1 P;go_wp2;go_loopw [4,31] (fun d i wr=>Tf w1.heap.size (M++F) (b.map LAt.I) nl w2 d i wr) (fun _ i _=>nl-(intOf i).toNat)
  case atStart=>exact af.out
  case round =>
   clear af c4;obtain⟨j,rfl,ch,rfl,g⟩:=hrel;have ag:w1.heap.size<=wr.heap.size:=aG ae g.2.1.size;have ci:=a2.out j;by_cases cj:j<nl
   ·obtain⟨ck,k,cl,G,Q⟩:=AC b j (by have:=av.out;omega);have v:k∈b:=by rw[G];simp
    have R:=ab.out.1;rw[G]at R;obtain⟨cm,cn,rfl,H,I⟩:=R.ai;rw[Q]at H I;have ah:=q.trans g.2.1;have co:=(ah.cell (aA w1 _ H)).trans H;have bf:=(ah.cell (aA w1 _ I)).trans I;obtain⟨x,y,ai⟩:=Am.ad (ab.out.2 k v);have S:=bs.out.2 k v;have cp:=a4.out k v;have T:=fun(W:World) (t:List UInt8) (bg:Below w1.heap.size w1 W) (bh:VQ w1.heap.size w1.heap.size t W) bi=>Iu rfl (ab.out.2 k v) bg bh bi S.1 S.2
    rw[ai]at T bf;have bj:=Ab T;have bk:=Ab (Hz (b.map LAt.I) j k.I (by rw[G,aQ,aH (by omega),Q,aW];rfl));clear R G Q v ai H I S T;generalize lineL k.I=cq at *;generalize k.key=z at *;generalize k.ws.length=A at *;have J:Below wr.heap.size wr (wr.alloc (aB #[.string z,aC x A y] 115)):=(aF wr.heap.size wr).alloc (aE _) _;have aj:(wr.alloc (aB #[.string z,aC x A y] 115)).heap[wr.heap.size]?=aL (aB #[.string z,aC x A y] 115):=by unfold bK;simp
    have bl:=g.1.lt;have ak:aL wr.heap.size≠aL w1.heap.size:=by intro e;have:=aT e;omega
    have al:∀c am,(Obj.cells #[.string z,aC x A y] 115)≠aB c 5 am:=by intro c am e;cases e
    have cr:(0:Int)<=(j:Int):=by omega
    have i2:(j:Int)<(nl:Int):=by omega
    obtain⟨d,r⟩:∃d:ByteArray,d=(if j=0 then ⟨#[58,32]⟩ else ⟨#[44,32]⟩):=⟨_,rfl⟩;have U:d.data.toList=if j=0 then [58,32] else [44,32]:=by rw[r];split <;> rfl
    have cs:d.data.toList.length<=2:=by rw[U];split <;> exact aE _
    rw[<-r];have bm:=Ab U;clear r U;obtain⟨v1,ct,an,B⟩:=Js d (g.1.gr J) (by rw[aD,aD];omega) (aG ag J.size);go_wp2_with (go_at_call 101;refine B.mono ?_)
    first|rintro e s rfl l|rintro e s ⟨rfl,l⟩
    have V:=l.2.2 _ _ aj ak al;have d3:s.cell? ⟨wr.heap.size,0,aO⟩=aL (.string z):=by rw[aV V];rfl
    have d4:s.cell? ⟨wr.heap.size,1,aO⟩=aL (aC x A y):=by rw[aV V];rfl
    have X:=g.trans (Dz.gr ag J l);have ao:=bj.out s _ (q.trans X.2.1) l.1 (by rw[an.out,aD,aD,aD];omega);clear B aj ak al V l J bl;go_wp2_with (go_at_call 137;refine ao.mono ?_)
    first|rintro e ap rfl Y|rintro e ap ⟨rfl,Y⟩
    have bn:=Ab (show Tf w1.heap.size (M++F) (b.map LAt.I) nl w2 (.string ⟨#[44,32]⟩) (.int .i64 ((j:Int)+1)) ap from⟨j+1,by rw[aK];rfl,by omega,by rw[if_neg (by omega)],by
     have aq:=X.trans Y;rw[an.out,bm.out]at aq;rw[bk.out];simpa only[aJ] using aq⟩)
    clear ao Y X;go_wp2;go_roundw;case rel=>exact bn.out
    case measure=>simp[intOf];omega
   ·obtain⟨d,r⟩:∃d:ByteArray,d=(if j=0 then ⟨#[58,32]⟩ else ⟨#[44,32]⟩):=⟨_,rfl⟩;rw[<-r];clear r;obtain rfl:j=nl:=by omega
    have ar:(b.map LAt.I).take j=b.map LAt.I:=by rw[<-av.out,<-aI (f:=LAt.I),aR]
    rw[ar,<-a5.out]at g;have B:=KI g.1 bq.out;have bo:=Ab g;clear g ar;go_wp2_with (go_at_call 71;refine B.mono ?_)
    first|rintro e s rfl l|rintro e s ⟨rfl,l⟩
    have bp:=Ab (ad.trans (((q.trans bo.out.2.1).trans l.2.1).mono ad.size));clear B l;go_wp2;go_ret;exact⟨_,rfl,rfl,bp.out⟩
noncomputable def parT(t:List UInt8):List PBlock:=match AU t with
 | .good x=>AO x
 | .bad _ _=>[]
noncomputable def parM(t:List UInt8):Int:=match AU t with
 | .good _=>0
 | .bad m _=>(m:Int)
noncomputable def parC(t:List UInt8):Int:=match AU t with
 | .good _=>0
 | .bad _ c=>c
theorem LJ(t:List UInt8):0<=parC t/\parC t<=11:=by
 unfold parC;cases h:AU t with
 | good x=>exact⟨by simp,by simp⟩
 | bad m c=>have:=CN h;simp only;omega
def theSame:List UInt8:=[116,104,101,32,115,97,109,101,10]
theorem Acv(a b:List UInt8)(h:parC a+parC b≠0):reportS a b≠theSame:=by
 unfold parC at h;unfold reportS reportLs;cases d:AU a with
 | bad m c=>simp[faultL,Abf,theSame]
 | good x =>
  cases e:AU b with
  | bad m c=>simp[faultL,Abg,theSame]
  | good y=>rw[d,e]at h;simp at h
theorem Acw(c:PChange)(D:List PChange):((c::D).map tellC).flatMap (fun l=>l++[10])≠theSame:=by
 have:∃a r,tellC c=a::r/\a≠116:=by
  unfold tellC frontC Fe;split
  ·exact⟨45,_,rfl,by decide⟩
  ·split
   ·exact⟨43,_,rfl,by decide⟩
   ·exact⟨126,_,rfl,by decide⟩
 obtain⟨a,r,e,b⟩:=this;intro h;rw[List.map_cons,List.flatMap_cons,e]at h;exact b (List.cons.inj h).1
theorem Aam(a b:List UInt8)(h:parC a+parC b=0):reportS a b=theSame↔fillS (parT a)=fillS (parT b):=by
 have h1:=LJ a;have n:=LJ b;cases d:AU a with
 | bad m c=>
  have:=CN d;have e:parC a=c:=by unfold parC;rw[d]
  omega
 | good x =>
  cases f:AU b with
  | bad m c=>
   have:=CN f;have e:parC b=c:=by unfold parC;rw[f]
   omega
  | good y =>
   have ea:parT a=AO x:=by unfold parT;rw[d]
   have j:parT b=AO y:=by unfold parT;rw[f]
   rw[ea,j];have g:=Eg (CF d);have i:=Eg (CF f);have k:AA (fillS (AO x)):=by rw[FQ g];exact Fd g
   have l:AA (fillS (AO y)):=by rw[FQ i];exact Fd i
   rw[<-Aal k l];unfold reportS reportLs;simp only[d,f];cases o:diffS (fillS (AO x)) (fillS (AO y)) with
   | nil=>exact⟨fun _=>rfl,fun _=>rfl⟩
   | cons c D=>exact⟨fun h=>absurd h (Acw c D),fun h=>by cases h⟩
variable {P:Program}{base:Nat}{e:TypeId}
theorem Oh{d:Type}{enc:TypeId × Value->d}{l:Nat->Bool}{m:Bool}{f:Nat}{t:TypeId}{cs:List Value}{c:List (List UInt8)}{p:List MemPlace}
  (o:P.underlying t=aL (.array n e)) (q:P.underlying e=aL .string) (r:P.cellsOf e=1) (u:P.cellsOf t=n)
  (h:bG enc P w base l m f t cs=aL (.agg (c.map fun a=>.lit (.string a)),p)):cs=c.map fun a=>Value.string ⟨a.toArray⟩:=by
 cases f with
 | zero=>simp[bG]at h
 | succ f =>
  simp only[bG,o,r,u,Nat.mul_one]at h;split at h
  ·rename_i C;obtain⟨xs,j,v⟩:=bD.1 h;have k:xs.map (·.1)=c.map fun a=>(bL (.string a):DataW d):=by
    have:=congrArg Prod.fst v;simpa using this
   have D:xs.length=n:=by simpa using Lib.mapM_length j
   have E:c.length=n:=by
    have:=congrArg aY k;simp at this;omega
   apply List.ext_getElem?;intro i;by_cases x:i<n
   ·obtain⟨b,y,z⟩:=Lib.mapM_at j i i (by simp[x]);obtain⟨s,A,rfl,_⟩:=DataW.trod_string q z;have h1:cs[i]?=aL (.string s):=by
     have:=congrArg (·[0]?) A;simpa [List.getElem?_take,List.getElem?_drop] using this
    have g:(xs.map (·.1))[i]?=aL (bL (.string s.data.toList):DataW d):=by simp[y]
    rw[k]at g;simp only[aQ,bD,DataW.lit.injEq,Lit.string.injEq]at g;obtain⟨F,B,rfl⟩:=g;simp[h1,B]
   ·rw[bE (by omega),bE (by simp;omega)]
  ·cases h
theorem RJ{name:String}{a:List (List UInt8)}{rest:List (String × DataW Unit)}{t:TypeId}
  (b:P.globalNamed name=aL g) (c:(P.globals[g]?).map (·.type)=aL t) (d:P.underlying t=aL (.array n e)) (f:P.underlying e=aL .string) (j:P.cellsOf e=1) (k:P.cellsOf t=n)
  (h:laidMet P ((name,.agg (a.map fun z=>.lit (.string z)))::rest) W) (i:Nat) (z:List UInt8) (l:a[i]?=aL z):W.cell? ⟨g,i,aO⟩=aL (.string ⟨z.toArray⟩):=by
 obtain⟨u,⟨v,w,cs,x,p,q,m,o,r,hd,_,_⟩,_⟩:=h;obtain rfl:=aT (b.symm.trans m);obtain rfl:=aT (c.symm.trans o);have e:=Oh d f j k hd;have s:=World.var?_cell b r i;rw[s,<-Array.getElem?_toList,e];simp[l]
theorem VC(k:Nat)(h:k<12):U8[k]?=aL (Gp (k:Int)):=by
 match k,h with
 | 0,_|1,_|2,_|3,_|4,_|5,_|6,_|7,_|8,_|9,_|10,_|11,_=>rfl
theorem VD{rest : List (String × DataW Unit)}(h : laidMet prog (("loop.example/wharfsheet/impl.faultTexts", .agg (U8.map fun a => .lit (.string a))) :: rest) W): DB W := fun k b =>
 RJ (g:=1) (by kernel_rfl) (t:=288) (by kernel_rfl) underlying288 underlying9 (by kernel_rfl) (by kernel_rfl) h k _ (VC k b)
