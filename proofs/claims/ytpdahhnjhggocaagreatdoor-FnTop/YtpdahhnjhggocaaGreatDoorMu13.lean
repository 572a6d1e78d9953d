import Derived.Test.YtpdahhnjhggocaaGreatDoorMu12
open Go.Proofs.Tryz
open Go.Value renaming string->aA,slice->aB,pointer->aI,agg->aP,slice->bI
open Option renaming none->aC,some->aD
open Go.World renaming block_lt_of_cell?->aE,ownsRow_lit->bA,size_alloc->bB,setRow->bC
open Array renaming getElem?_eq_some_iff->aF
open List renaming getElem?_cons_zero->aG,getElem?_toArray->aJ,getElem?_cons_succ->aK,setIfInBounds_toArray->aS,map_cons->aT,flatMap_append->aV,map_toArray->aW,set_cons_zero->aX,set_cons_succ->aY,map_nil->aZ,take_of_length_le->bF,flatMap_singleton->bG,mem_append->bH,mem_singleton->bJ,filter_append->bK,map_append->bM,length_map->bN,length_filter_le->bP,length_append->bT,take_length->bV,filter_cons->bW,take_left->bX,drop_left->bY,mem_cons->bZ
open Go.Obj renaming cells->aH
open Go.Act renaming eval->aL
open Nat renaming le_refl->aM,zero_add->bD,zero_le->bQ,le_trans->cA
open Go.Oper renaming wp->aN,mk->bU
open Go.RowKit.Below renaming refl->aO,heap_setCell->bR
open Option.some renaming inj->aQ
open Go.Ending renaming returned->aR
open Go.NoPanic renaming normal->aU
open Go.Code renaming region->bE
open Go.Operand renaming tmp->bL
open Go.ByteArray renaming toList_eq->bO
open Go.Op renaming store->bS
namespace Go.Proofs.YtpdahhnjhggocaaGreatDoor
open Go.RowKit
set_option maxHeartbeats 16000000
set_option maxRecDepth 100000
theorem XS{a b:ByteArray}(h:a.toList=b.toList):a=b:=by
 rw[bO,bO]at h;exact ByteArray.ext (Array.toList_inj.1 h)
variable {α β:Type}{k:Nat}
theorem E1(W:World)(R:Nat)(cs:Array Value):W.grownBy (W.setRow R cs) (aD R):=⟨rfl,rfl,rfl,by rw[setRow_size];exact aM _,fun i _ a=>setRow_other _ _ _ _ (fun e=>a (by rw[e]))⟩
theorem Pt{l D T:List α}{x:α}(f:α->List β)(e:l=D++x::T)(a:D.length=k):(l.take (k+1)).flatMap f=(l.take k).flatMap f++f x:=by
 subst e a;rw[Bk,BG,aV,bG]
variable {w:World}{ao:Option Addr}{n:Nat}{xs:List Value}
theorem FW{α:Type}(a:α->α->Bool)(x:α):∀(D T:List α),(∀y∈D,a y x=true)->(∀y,T.head?=aD y->a y x=false)->Cb a x (D++T)=D++x::T
 | [],[],_,_=>rfl
 | [],y::T,_,h=>by
  have:=h y rfl;simp[Cb,this]
 | y::D,T,h,b=>by
  have h1:=h y (by simp);simp[Cb,h1,FW a x D T (fun c d=>h c (by simp[d])) b]
theorem Ap.drop{cap size:Nat}(h:Ap w (aB ao n cap) n size xs)(k:Nat)(i:k<=n):Ap w (aB (if cap=k then ao else ao.map (fun a=>a.add (k*size))) (n-k) (cap-k)) (n-k) size (xs.drop (k*size)):=by
 obtain⟨e,l,m,f,o,c⟩:=h;cases f
 refine⟨?_,_,_,rfl,⟨by omega,by omega⟩,?_⟩
 ·rw[List.length_drop,e,Nat.sub_mul]
 ·by_cases g:n-k=0
  ·exact .inl g
  ·rcases c with p | ⟨b,off,rfl,c⟩
   ·exact .inl (by omega)
   ·refine .inr ⟨b,off+k*size,?_,fun j u d=>?_⟩
    ·rw[if_neg (by omega),Option.map_some,Ge]
    ·rw[List.getElem?_drop]at d;have:=c _ u d
     rwa [show off+(k*size+j)=off+k*size+j by omega]at this
def Adg(R:List Plain)(b:BAt)(x:LAt)(w:World)(e:Ending)(w':World):Prop:=∃v' D T,b.ls=D++T/\e=aR (aP #[aA b.aa,aA b.name,v'])/\(D++x::T).map LAt.I=Cb (lineLt R) x.I (b.ls.map LAt.I)/\w'.ownsRow w.heap.size 115 2 v' (D++x::T).length ((D++x::T).flatMap LAt.cells)/\Below w.heap.size w w'
theorem OC{b:BAt}{x:LAt}(ar:AH w b)(az:Ah b.ls)(au:BL w x)(cd:x.ws.length<=1048576):Calls prog 86 #[aP #[aA b.aa,aA b.name,b.v],aP #[aA x.key,x.v]] w fun e w'=>Adg (rulesOf b.aa) b x w e w':=by
 obtain⟨bk,bn,bv,t⟩:=b;obtain⟨xk,xv,r⟩:=x;unfold AH at ar;unfold BL at au;simp only at *;obtain⟨la,lc,rfl⟩:=ar.1.ae;obtain⟨xa,xc,rfl⟩:=au.ae;have b0:Below w.heap.size w (((w.alloc (aH #[aA bk,aA bn,aB la t.length lc] 46)).alloc (aH #[aA xk,aB xa r.length xc] 115)).alloc (aH #[aA ⟨#[]⟩,aA ⟨#[]⟩,aB aC 0 0] 46)):=(((aO _ _).alloc (aM _) _).alloc (by simp) _).alloc (by simp;omega) _;obtain⟨bg,bh,bi,bj⟩:=Ho (w:=w) (o1:=aH #[aA bk,aA bn,aB la t.length lc] 46) (o2:=aH #[aA xk,aB xa r.length xc] 115) (o3:=aH #[aA ⟨#[]⟩,aA ⟨#[]⟩,aB aC 0 0] 46);have X:=Aa ar;have a0:=Aa az;have a1:=Aa au;have dd:=az.1;clear ar az au;generalize bl:t.length=o at *;have N:=Aa bl;clear bl;generalize bm:r.length=l at *;have bo:=Aa bm;clear bm;generalize bp:((w.alloc (aH #[aA bk,aA bn,aB la o lc] 46)).alloc (aH #[aA xk,aB xa l xc] 115)).alloc (aH #[aA ⟨#[]⟩,aA ⟨#[]⟩,aB aC 0 0] 46)=W0 at *;have ce:=Aa bp;have cf:=Aa bg;clear bp bg;go_enter func86,ntmps86;go_wp2;go_loopw [5] (fun i wr=>∃(D T:List LAt),i=.int .i64 (D.length:Int)/\D.length<=o/\Hid (t=D++T)/\Hid (∀y∈D.map LAt.I,lineLt (rulesOf bk) y ⟨xk,r⟩=true)/\Below W0.heap.size W0 wr) (fun i _=>o-(intOf i).toNat)
 case atStart =>
  rw[ce.out];exact⟨[],t,rfl,by simp,(rfl:t=[]++t),(by simp:∀y∈([]:List LAt).map LAt.I,_),aO _ _⟩
 case round =>
  obtain⟨D,T,rfl,bq,s,af,O⟩:=hrel;have av:=b0.trans (O.mono b0.size);have de:=cf.out;have z0:=(O.block w.heap.size (by omega)).trans bh;have Y:=(O.block (w.heap.size+1) (by omega)).trans bi;have z2:=(O.block (w.heap.size+2) (by omega)).trans bj;have c0:=Ab z0 0;have c2:=Ab z0 2;have J:=Ab Y 0;have L:=Ab Y 1;simp only[aJ,aG,aK]at c0 c2 J L;have df:=O.size;have v0:=fun p:Gr wr=>A6 c0 p
  have v2:=fun p:Gr wr=>A6 c2 p
  have a2:=fun p:Gr wr=>A6 J p
  have u1:=fun p:Gr wr=>A6 L p
  have Z:=Aa (X.out.V av);have ag:=Aa (a1.out.V av);clear c0 c2 J L bh bi bj;go_upto_region 2 with fail
  go_cut [21] from 6 to 21 (fun c cg=>∃B:Bool,c=.bool B/\Hid ((B=true->∃y aa,T=y::aa/\lineLt (rulesOf bk) y.I ⟨xk,r⟩=true)/\(B=false->∀y,(T.map LAt.I).head?=aD y->lineLt (rulesOf bk) y ⟨xk,r⟩=false))/\Below wr.heap.size wr cg)
  case first =>
   cases T with
   | nil =>
    have br:D.length=o:=by rw[<-N.out,s.out];simp
    have dg:¬((D.length:Int)<(o:Int)):=by omega
    clear br;clear Z ag s af a2 u1 v0 z0 Y z2 X a1 a0;refine AQ (by kernel_rfl) (by kernel_rfl) ?_;iterate 6 quiet_step (fail)
    iterate 9 (with_reducible refine AY ?_ ?_;kernel_rfl;simp only[Act.put,aS,aX,aY])
    quiet_step (fail)
    refine wpQuiet_nil ?_;rintro _ ⟨⟨ch,a3⟩,rfl⟩;go_wp2_with fail
    go_meet;exact⟨false,rfl,⟨(fun h=>by cases h),fun _ y P=>by cases P⟩,a3⟩
   | cons y T =>
    have br:D.length<o:=by have:=N.out;rw[s.out]at this;simp at this;omega
    have a4:=Z.out;rw[s.out]at a4;obtain⟨g,off,rfl,ab,ac⟩:=a4.1.line;have a5:y∈t:=by rw[s.out];simp
    have a6:=Z.out.2 y a5;obtain⟨ci,yc,a7⟩:=Ap.ae a6;have w1:=fun p:Gr wr=>A6 ab p
    have w2:=fun p:Gr wr=>A6 ac p
    rw[a7]at w2;have aw:=(a0.out.2 y a5).1;have bs:∀p:Gr wr,Calls prog 121 #[aA bk,aP #[aA y.key,aB ci y.ws.length yc],aP #[aA xk,aB xa l xc]] p.u fun e w'=>e=aR (.bool (lineLt (rulesOf bk) y.I ⟨xk,r⟩))/\Below p.u.heap.size p.u w':=fun p =>
     Hr bk y.I ⟨xk,r⟩ (a7▸Ap.V a6 p.h) (by have:=ag.out.V p.h;rw[<-bo.out]at this⊢;exact this) aw (by show r.length<=_;rw[bo.out];exact cd)
    have dh:((D.length:Int)<(o:Int)):=by omega
    have di:(0:Int)<=(D.length:Int):=by omega
    have cj:=Aa (show ∀B,lineLt (rulesOf bk) y.I ⟨xk,r⟩=B->((B=true->∃ad aa,y::T=ad::aa/\lineLt (rulesOf bk) ad.I ⟨xk,r⟩=true)/\(B=false->∀ad,((y::T).map LAt.I).head?=aD ad->lineLt (rulesOf bk) ad ⟨xk,r⟩=false)) from fun B Q=>⟨fun h=>⟨y,T,rfl,by rw[Q,h]⟩,fun h ad ck=>by cases ck;rw[Q,h]⟩);generalize bt:lineLt (rulesOf bk) y.I ⟨xk,r⟩=LT at bs;have cl:=Aa bt;clear bt Z ag a4 a6 a7 s af z0 Y z2 X a1 a0 ab ac a5;generalize y.key=yk at *;generalize y.ws.length=dj at *;refine AQ (by kernel_rfl) (by kernel_rfl) ?_;iterate 14 quiet_step (fail)
    quiet_step ((go_at_call 121;refine DH (bs _)))
    quiet_step (fail)
    refine wpQuiet_nil ?_;rintro _ ⟨⟨ch,a3⟩,rfl⟩;go_wp2_with fail
    go_meet;exact⟨LT,rfl,cj.out LT cl.out,a3⟩
  case rest =>
   obtain⟨d,cm⟩:∃d,d=wc:=⟨_,rfl⟩;subst cm;obtain⟨B,rfl,Q,bk'⟩:=hcut;have cn:=O.trans (bk'.mono O.size);cases B
   ·have co:=Aa (Q.out.2 rfl);have bu:=(bk'.block w.heap.size (by omega)).trans z0;have bw:=(bk'.block (w.heap.size+1) (by omega)).trans Y;have cp:=(bk'.block (w.heap.size+2) (by omega)).trans z2;have bx:=av.trans (bk'.mono av.size);have c2:=Ab bu 2;have J:=Ab bw 0;have L:=Ab bw 1;simp only[aJ,aG,aK]at c2 J L;have bz:=Aa (X.out.1.V bx);have dk:(0:Int)<=(D.length:Int):=by omega
    have dl:(D.length:Int)<=(o:Int):=by omega
    have dm:o<=lc:=by have:=X.out.1.cap.1;rw[N.out]at this;exact this
    have dn:(o:Int)<=(lc:Int):=by omega
    have dp:(D.length:Int)<=(lc:Int):=by omega
    have b1:d.drew.cell? ⟨w.heap.size,2,aC⟩=aD (aB la o lc)/\d.drew.cell? ⟨w.heap.size+1,0,aC⟩=aD (aA xk)/\d.drew.cell? ⟨w.heap.size+1,1,aC⟩=aD (aB xa l xc):=⟨c2,J,L⟩;have dq:=fun p:{ W:World // W.cell? ⟨w.heap.size,2,aC⟩=aD (aB la o lc)/\W.cell? ⟨w.heap.size+1,0,aC⟩=aD (aA xk)/\W.cell? ⟨w.heap.size+1,1,aC⟩=aD (aB xa l xc) }=>p.2.1
    have dr:=fun p:{ W:World // W.cell? ⟨w.heap.size,2,aC⟩=aD (aB la o lc)/\W.cell? ⟨w.heap.size+1,0,aC⟩=aD (aA xk)/\W.cell? ⟨w.heap.size+1,1,aC⟩=aD (aB xa l xc) }=>p.2.2.1
    have ds:=fun p:{ W:World // W.cell? ⟨w.heap.size,2,aC⟩=aD (aB la o lc)/\W.cell? ⟨w.heap.size+1,0,aC⟩=aD (aA xk)/\W.cell? ⟨w.heap.size+1,1,aC⟩=aD (aB xa l xc) }=>p.2.2.2
    clear Q v0 v2 a2 u1 Z ag;go_upto_region 4 with fail
    letI:Inhabited { W:World // W.cell? ⟨w.heap.size,2,aC⟩=aD (aB la o lc)/\W.cell? ⟨w.heap.size+1,0,aC⟩=aD (aA xk)/\W.cell? ⟨w.heap.size+1,1,aC⟩=aD (aB xa l xc) }:=⟨⟨d.drew,b1⟩⟩;refine AW (S:=fun W=>W.cell? ⟨w.heap.size,2,aC⟩=aD (aB la o lc)/\W.cell? ⟨w.heap.size+1,0,aC⟩=aD (aA xk)/\W.cell? ⟨w.heap.size+1,1,aC⟩=aD (aB xa l xc)) 15 16 (by kernel_rfl) rfl ?_;refine AF [false,true,true,true,true,false,true,false,false,true,true,true,true,false,false,false] 7 rfl (by kernel_rfl) b1 ?_;simp only[AU,AV,AR];iterate 9 (refine Av (fun K j=>?_);go_simp;refine j _ ?_;clear j K)
    refine A4 ?_;have E:=Aa (show ∀u,Below d.heap.size d u->u.cell? ⟨w.heap.size,2,aC⟩=aD (aB la o lc)/\u.cell? ⟨w.heap.size+1,0,aC⟩=aD (aA xk)/\u.cell? ⟨w.heap.size+1,1,aC⟩=aD (aB xa l xc) from fun u a8=>⟨(a8.cell (aE d _ c2)).trans c2,(a8.cell (aE d _ J)).trans J,(a8.cell (aE d _ L)).trans L⟩);have a9:=Aa (show Ap d (aB la D.length lc) D.length 2 (D.flatMap LAt.cells) from by
     have h1:=bz.out;rw[N.out]at h1;have ah:=h1.take D.length bq;rw[s.out,aV,<-Bn LAt.cells 2 LAt.len D,bX]at ah;exact ah)
    have b2:=Aa (show Ap d (aB (if lc=D.length then la else la.map (fun a=>a.add (D.length*2))) (o-D.length) (lc-D.length)) (o-D.length) 2 (T.flatMap LAt.cells) from by
     have h1:=bz.out;rw[N.out]at h1;have ah:=h1.drop D.length bq;rw[s.out,aV,<-Bn LAt.cells 2 LAt.len D,bY,Bn LAt.cells 2 LAt.len D]at ah;exact ah)
    have b3:=Aa (show ∀y∈t,∃a n c,y.v=aB a n c from fun y P=>by obtain⟨a,c,e⟩:=Ap.ae (X.out.2 y P);exact⟨a,_,c,e⟩);have ba:=Aa (Cy (ls:=D) (fun y P=>b3.out y (by rw[s.out];simp[P])));have cq:=Aa (Cy (ls:=T) (fun y P=>b3.out y (by rw[s.out];simp[P])));obtain⟨i0,ai,aj,ak,al⟩:=info_parts CK;generalize (if lc=D.length then la else la.map (fun a=>a.add (D.length*2)))=dt at b2⊢;refine Ae (f:=6) (rs:=[0,7]) (by kernel_rfl) (by simp) ?_;refine Af.cons rfl (by decide) (fun K j=>?wayA) (Af.cons rfl (by decide) (fun K j=>?wayB) Af.nil);case' wayA =>
     go_simp;have R:Below d.heap.size d (d.alloc (aH #[] 115)).drew:=((aO d.heap.size d).alloc (aM _) (aH #[] 115)).drew;have ax:(d.alloc (aH #[] 115)).drew.ownsRow d.heap.size 115 2 (aB (aD ⟨d.heap.size,0,aC⟩) 0 0) 0 []:=bA (base:=d.heap.size) (e:=115) (size:=2) d #[] 0 (aM _) (by decide) rfl;refine j.out _ _ (E.out _ R) ?_;clear j K;refine Ae (f:=5) (rs:=[5,7]) (by kernel_rfl) (by simp) ?_;refine Af.cons rfl (by decide) (fun K j=>?wayA1) (Af.cons rfl (by decide) (fun K j=>?wayA2) Af.nil)
    case' wayA1 =>
     refine AC rfl _ _ 44 rfl d.heap.size 115 i0 _ 2 40 underlying44 ai aj ak al rfl (by decide) _ 0 _ rfl ax _ D.length _ rfl (a9.out.V R) ba.out (by unfold maxLen;omega) (by omega) R.size ?_;intro bb c5 b4 bc F _;simp only[bD]at bc⊢;have V:=R.grown F R.size (fun q I=>by cases I;exact aM _);refine j.out _ _ (E.out _ V) ?_;clear j K;refine Ae (f:=4) (rs:=[7]) (by kernel_rfl) (by simp) ?_;refine Af.cons rfl (by decide) (fun K j=>?_) Af.nil;go_simp;have G:=V.alloc V.size (aH #[aA xk,aB xa l xc] 115);have M:=bc.alloc (aH #[aA xk,aB xa l xc] 115);have am:=Bz b4 #[aA xk,aB xa l xc] 115 2 rfl;refine j.out _ _ (E.out _ G) ?_;clear j K;generalize b4.alloc (aH #[aA xk,aB xa l xc] 115)=U at G M am⊢;clear bc F V ax R
    case' wayA2 =>
     go_simp;have z:Below d.heap.size d ((d.alloc (aH #[] 115)).alloc (aH #[aA xk,aB xa l xc] 115)).drew:=(((aO d.heap.size d).alloc (aM _) (aH #[] 115)).alloc (by simp) _).drew;have o7:((d.alloc (aH #[] 115)).alloc (aH #[aA xk,aB xa l xc] 115)).drew.ownsRow d.heap.size 115 2 (aB (aD ⟨d.heap.size,0,aC⟩) 0 0) 0 []:=ax.alloc (aH #[aA xk,aB xa l xc] 115);have an:Ap ((d.alloc (aH #[] 115)).alloc (aH #[aA xk,aB xa l xc] 115)).drew (aB (aD ⟨d.heap.size+1,0,aC⟩) 1 1) 1 2 [aA xk,aB xa l xc]:=by
      have:=Bz (d.alloc (aH #[] 115)) #[aA xk,aB xa l xc] 115 2 rfl;rw[bB]at this;exact this
     refine j.out _ _ (E.out _ z) ?_;clear j K;refine Ae (f:=4) (rs:=[5]) (by kernel_rfl) (by simp) ?_;refine Af.cons rfl (by decide) (fun K j=>?_) Af.nil;refine AC rfl _ _ 44 rfl d.heap.size 115 i0 _ 2 40 underlying44 ai aj ak al rfl (by decide) _ 0 _ rfl o7 _ D.length _ rfl (a9.out.V z) ba.out (by unfold maxLen;omega) (by omega) z.size ?_;intro bb c5 U M F _;simp only[bD]at M⊢;have G:=z.grown F z.size (fun q I=>by cases I;exact aM _);have am:=an.far (.inr (fun b off m c e=>by cases e;show d.heap.size+1≠d.heap.size;omega)) F;refine j.out _ _ (E.out _ G) ?_;clear j K o7 an F z ax R
    case' wayB =>
     go_simp;have b5:Below d.heap.size d (d.alloc (aH #[aA xk,aB xa l xc] 115)).drew:=((aO d.heap.size d).alloc (aM _) _).drew;refine j.out _ _ (E.out _ b5) ?_;clear j K;refine Ae (f:=5) (rs:=[0]) (by kernel_rfl) (by simp) ?_;refine Af.cons rfl (by decide) (fun K j=>?_) Af.nil;go_simp;have z:Below d.heap.size d ((d.alloc (aH #[aA xk,aB xa l xc] 115)).alloc (aH #[] 115)).drew:=(((aO d.heap.size d).alloc (aM _) _).alloc (by simp) _).drew;have o7:((d.alloc (aH #[aA xk,aB xa l xc] 115)).alloc (aH #[] 115)).drew.ownsRow d.heap.size 115 2 (aB (aD ⟨d.heap.size+1,0,aC⟩) 0 0) 0 []:=by
      have:=bA (base:=d.heap.size) (e:=115) (size:=2) (d.alloc (aH #[aA xk,aB xa l xc] 115)) #[] 0 (by simp) (by decide) rfl;rw[bB]at this;exact this
     have an:Ap ((d.alloc (aH #[aA xk,aB xa l xc] 115)).alloc (aH #[] 115)).drew (aB (aD ⟨d.heap.size,0,aC⟩) 1 1) 1 2 [aA xk,aB xa l xc]:=(Bz d #[aA xk,aB xa l xc] 115 2 rfl).V ((aO _ _).alloc (aM _) _).drew;refine j.out _ _ (E.out _ z) ?_;clear j K;refine Ae (f:=4) (rs:=[5]) (by kernel_rfl) (by simp) ?_;refine Af.cons rfl (by decide) (fun K j=>?_) Af.nil;refine AC rfl _ _ 44 rfl d.heap.size 115 i0 _ 2 40 underlying44 ai aj ak al rfl (by decide) _ 0 _ rfl o7 _ D.length _ rfl (a9.out.V z) ba.out (by unfold maxLen;omega) (by omega) z.size ?_;intro bb c5 U M F _;simp only[bD]at M⊢;have G:=z.grown F z.size (fun q I=>by cases I;show d.heap.size<=d.heap.size+1;omega);have am:=an.far (.inr (fun b off m c e=>by cases e;show d.heap.size≠d.heap.size+1;omega)) F;refine j.out _ _ (E.out _ G) ?_;clear j K o7 an F z b5
    all_goals
     refine Ae (f:=3) (rs:=[8]) (by kernel_rfl) (by simp) ?_;refine Af.cons rfl (by decide) (fun K j=>?_) Af.nil;have b6:∀q,(bI bb (D.length) c5).ownBlock=aD q->d.heap.size<=q:=fun q I=>(M.lt q I).1
     refine AC rfl _ _ 44 rfl d.heap.size 115 i0 _ 2 40 underlying44 ai aj ak al rfl (by decide) _ (D.length) _ rfl M _ 1 _ rfl am (by intro ao H;simp at H;rcases H with rfl | rfl <;> rfl) (by unfold maxLen;omega) (by omega) G.size ?_
     intro cr cs du bd b7 _;have ae:=G.grown b7 G.size b6;refine j.out _ _ (E.out _ ae) ?_;clear j K;refine Ae (f:=2) (rs:=[13]) (by kernel_rfl) (by simp) ?_;refine Af.cons rfl (by decide) (fun K j=>?_) Af.nil;have b8:∀q,(bI cr (D.length+1) cs).ownBlock=aD q->d.heap.size<=q:=fun q I=>(bd.lt q I).1
     refine AC rfl _ _ 44 rfl d.heap.size 115 i0 _ 2 40 underlying44 ai aj ak al rfl (by decide) _ (D.length+1) _ rfl bd _ (o-D.length) _ rfl (b2.out.V ae) cq.out (by unfold maxLen;omega) (by omega) ae.size ?_;intro A c9 be b9 ca _;have ap:=ae.grown ca ae.size b8;refine j.out _ _ (E.out _ ap) ?_;clear j K M am bd b7 ca b6 b8 ae G;refine Ae (f:=1) (rs:=[14]) (by kernel_rfl) (by simp) ?_;refine Af.cons rfl (by decide) (fun K j=>?_) Af.nil;go_simp;refine j.out _ _ (E.out _ ap) ?_;clear j K;have ay:=(ap.block w.heap.size (by have:=bk'.size;omega)).trans bu;have ct:=(ap.block (w.heap.size+2) (by have:=bk'.size;omega)).trans cp;have cu:=Ab ay 0;have cv:=Ab ay 1;have cw:=Ab ay 2;have dv:=Ad ay 2;simp only[aJ,aG,aK]at cu cv cw;refine AK (by kernel_rfl) rfl (by kernel_rfl) ?_;intro K j;have dw:w.heap.size+3<=d.heap.size:=by have:=bk'.size;omega
     have cx:=bx.trans (ap.mono (by omega));have cy:=Aa b9;have cb:(be.setCell ⟨w.heap.size,2,aC⟩ (aB A (D.length+1+(o-D.length)) c9)).heap[w.heap.size+2]?=aD (aH #[aA ⟨#[]⟩,aA ⟨#[]⟩,aB aC 0 0] 46 (0,0)):=by rw[bR _ _ _ _ (by simp)];exact ct
     clear b9;generalize cc:D.length+1+(o-D.length)=C at *;have cz:=Aa cc;clear cc;go_simp;refine j.out _ _ (aU ?_);clear j K;go_wp2_with (with_reducible show wpList _ _ _ (bU _ (bS _ (bL 4) _) _ _ _ _::_) _ _;refine wpList_store_row rfl 46 _ _ rfl (w.heap.size+2) #[aA bk,aA bn,aB A C c9] ?_ ?_ 46 _ cb ?_ ?_ ?_ ?_)
     all_goals (first | rfl | kernel_rfl | exact⟨rfl,rfl,rfl⟩ | (obtain⟨i9,c1,_,c3,_⟩:=info_parts Bg;exact⟨i9,c1,c3⟩) | skip)
     have z5:(bC (be.setCell ⟨w.heap.size,2,aC⟩ (aB A C c9)) (w.heap.size+2) #[aA bk,aA bn,aB A C c9]).heap[w.heap.size+2]?=aD (aH #[aA bk,aA bn,aB A C c9] 46 (0,0)):=setRow_heap _ _ _ _ _ _ cb;have aq:=cx.setCell (p:=⟨w.heap.size,2,aC⟩) (aM _) (aB A C c9)
     have V:Below w.heap.size w (bC (be.setCell ⟨w.heap.size,2,aC⟩ (aB A C c9)) (w.heap.size+2) #[aA bk,aA bn,aB A C c9]) :=
      ⟨aq.os,aq.tape,aq.output,by rw[setRow_size];exact aq.size,fun k c4=>by rw[setRow_other _ _ _ _ (by omega)];exact aq.block k c4⟩
     have o5:=Cu (GI (BA cy.out ⟨w.heap.size,2,aC⟩ (by simp;omega) (aB A C c9)) (w.heap.size+2) (by omega) #[aA bk,aA bn,aB A C c9]) (show w.heap.size<=d.heap.size by omega);have bf:=Ab z5 0;have ab:=Ab z5 1;have ac:=Ab z5 2;simp only[aJ,aG,aK]at bf ab ac;generalize bC _ _ _=W at V bf ab ac z5 o5⊢;have c6:(D++(⟨xk,aB xa l xc,r⟩:LAt)::T).map LAt.I=Cb (lineLt (rulesOf bk)) ⟨xk,r⟩ (t.map LAt.I):=by
      have h1:=FW (lineLt (rulesOf bk)) ⟨xk,r⟩ (D.map LAt.I) (T.map LAt.I) af.out co.out;rw[show (t.map LAt.I)=D.map LAt.I++T.map LAt.I from by rw[s.out];simp];exact(show _=_ from by simp[LAt.I]).trans h1.symm
     have c7:W.ownsRow w.heap.size 115 2 (aB A C c9) (D++(⟨xk,aB xa l xc,r⟩:LAt)::T).length ((D++(⟨xk,aB xa l xc,r⟩:LAt)::T).flatMap LAt.cells):=by
      have c8:(D++(⟨xk,aB xa l xc,r⟩:LAt)::T).length=C:=by
       have h1:=N.out;rw[s.out]at h1;rw[<-cz.out];simp at h1⊢;omega
      have da:(D++(⟨xk,aB xa l xc,r⟩:LAt)::T).flatMap LAt.cells=[]++D.flatMap LAt.cells++[aA xk,aB xa l xc]++T.flatMap LAt.cells:=by simp[LAt.cells]
      rw[c8,da];exact o5
     exact bodyPost_ret (v:=aP #[aA bk,aA bn,aB A C c9]) (by simp[results,results86,go_sem,bf,ab,ac]) rfl ⟨_,D,T,s.out,rfl,c6,c7,V⟩
   ·obtain⟨y,aa,rfl,aw⟩:=Q.out.1 rfl;have db:Hid (t=(D++[y])++aa):=by have:=s.out;show t=_;rw[this];simp
    have dc:Hid (∀ao∈(D++[y]).map LAt.I,lineLt (rulesOf bk) ao ⟨xk,r⟩=true):=by
     show ∀ao∈_,_
     intro ao H;rw[bM,bH]at H;rcases H with H | H
     ·exact af.out ao H
     ·simp only[aT,aZ,bJ]at H;rw[H];exact aw
    have dx:D.length<o:=by have:=N.out;rw[s.out]at this;simp at this;omega
    clear Q v0 v2 a2 u1 Z ag s af aw z0 Y z2;go_wp2;go_roundw;case rel=>exact⟨D++[y],aa,by simp,by simp;omega,db,dc,cn⟩
    case measure=>simp[intOf];omega
variable {bv:Value}
def Aae(bs:List BAt)(x:BAt)(w:World)(e:Ending)(w':World):Prop:=∃v' D T,bs=D++T/\e=aR (aP #[v'])/\(D++x::T).map BAt.I=Cb blockLt x.I (bs.map BAt.I)/\w'.ownsRow w.heap.size 46 3 v' (D++x::T).length ((D++x::T).flatMap BAt.cells)/\Below w.heap.size w w'
theorem N0{bl:List BAt}{x:BAt}(ar:Ap w bv bl.length 3 (bl.flatMap BAt.cells))(a6:∀y∈bl,∃a n c,y.v=aB a n c)(a7:bl.length<=1048576)(ca:∃a n c,x.v=aB a n c):Calls prog 54 #[aP #[bv],aP #[aA x.aa,aA x.name,x.v]] w fun e w'=>Aae bl x w e w':=by
 obtain⟨xk,xn,xv,r⟩:=x;simp only at *;obtain⟨la,lc,rfl⟩:=ar.ae;obtain⟨xa,l,xc,rfl⟩:=ca;have b0:Below w.heap.size w (((w.alloc (aH #[aB la bl.length lc] 25)).alloc (aH #[aA xk,aA xn,aB xa l xc] 46)).alloc (aH #[aB aC 0 0] 25)):=(((aO _ _).alloc (aM _) _).alloc (by simp) _).alloc (by simp;omega) _;obtain⟨a8,a9,ba,bb⟩:=Ho (w:=w) (o1:=aH #[aB la bl.length lc] 25) (o2:=aH #[aA xk,aA xn,aB xa l xc] 46) (o3:=aH #[aB aC 0 0] 25);have Z:=Aa ar;have aa:=Aa a6;have c1:=a7;clear ar a7 a6;generalize bc:bl.length=o at *;have ao:=Aa bc;clear bc;generalize bd:((w.alloc (aH #[aB la o lc] 25)).alloc (aH #[aA xk,aA xn,aB xa l xc] 46)).alloc (aH #[aB aC 0 0] 25)=W0 at *;have cb:=Aa bd;have cc:=Aa a8;clear bd a8;go_enter func54,ntmps54;go_wp2;go_loopw [5] (fun i wr=>∃(D T:List BAt),i=.int .i64 (D.length:Int)/\D.length<=o/\Hid (bl=D++T)/\Hid (∀y∈D.map BAt.I,blockLt y ⟨xk,xn,r.map LAt.I⟩=true)/\Below W0.heap.size W0 wr) (fun i _=>o-(intOf i).toNat)
 case atStart =>
  rw[cb.out];exact⟨[],bl,rfl,by simp,(rfl:bl=[]++bl),(by simp:∀y∈([]:List BAt).map BAt.I,_),aO _ _⟩
 case round =>
  obtain⟨D,T,rfl,be,s,ab,N⟩:=hrel;have au:=b0.trans (N.mono b0.size);have c3:=cc.out;have z0:=(N.block w.heap.size (by omega)).trans a9;have O:=(N.block (w.heap.size+1) (by omega)).trans ba;have z2:=(N.block (w.heap.size+2) (by omega)).trans bb;have c2:=Ab z0 0;have I:=Ab O 0;have J:=Ab O 1;have L:=Ab O 2;simp only[aJ,aG,aK]at c2 I J L;have c4:=N.size;have v2:=fun p:Gr wr=>A6 c2 p
  have av:=fun p:Gr wr=>A6 I p
  have u1:=fun p:Gr wr=>A6 J p
  have u2:=fun p:Gr wr=>A6 L p
  have ac:=Aa (Z.out.V au);clear c2 I J L a9 ba bb;go_upto_region 2 with fail
  go_cut [19] from 6 to 19 (fun c cd=>∃B:Bool,c=.bool B/\Hid ((B=true->∃y V,T=y::V/\blockLt y.I ⟨xk,xn,r.map LAt.I⟩=true)/\(B=false->∀y,(T.map BAt.I).head?=aD y->blockLt y ⟨xk,xn,r.map LAt.I⟩=false))/\Below wr.heap.size wr cd)
  case first =>
   cases T with
   | nil =>
    have bf:D.length=o:=by rw[<-ao.out,s.out];simp
    have c6:¬((D.length:Int)<(o:Int)):=by omega
    clear bf;clear ac s ab av u1 u2 z0 O z2 Z aa;refine AQ (by kernel_rfl) (by kernel_rfl) ?_;iterate 6 quiet_step (fail)
    iterate 7 (with_reducible refine AY ?_ ?_;kernel_rfl;simp only[Act.put,aS,aX,aY])
    quiet_step (fail)
    refine wpQuiet_nil ?_;rintro _ ⟨⟨ce,aw⟩,rfl⟩;go_wp2_with fail
    go_meet;exact⟨false,rfl,⟨(fun h=>by cases h),fun _ y ad=>by cases ad⟩,aw⟩
   | cons y T =>
    have bf:D.length<o:=by have:=ao.out;rw[s.out]at this;simp at this;omega
    have ax:=ac.out;rw[s.out]at ax;obtain⟨g,off,rfl,bg,bh,bi⟩:=ax.block;have bj:y∈bl:=by rw[s.out];simp
    obtain⟨bk,bm,yc,bn⟩:=aa.out y bj;have w1:=fun p:Gr wr=>A6 bg p
    have w2:=fun p:Gr wr=>A6 bh p
    have w3:=fun p:Gr wr=>A6 bi p
    rw[bn]at w3;have bo:∀p:Gr wr,Calls prog 59 #[aP #[aA y.aa,aA y.name,aB bk bm yc],aP #[aA xk,aA xn,aB xa l xc]] p.u fun e w'=>e=aR (.bool (blockLt y.I ⟨xk,xn,r.map LAt.I⟩))/\Below p.u.heap.size p.u w':=fun p =>
     KX y.I ⟨xk,xn,r.map LAt.I⟩ bm l yc xc bk xa p.u
    have c7:((D.length:Int)<(o:Int)):=by omega
    have c8:(0:Int)<=(D.length:Int):=by omega
    have cf:=Aa (show ∀B,blockLt y.I ⟨xk,xn,r.map LAt.I⟩=B->((B=true->∃X V,y::T=X::V/\blockLt X.I ⟨xk,xn,r.map LAt.I⟩=true)/\(B=false->∀X,((y::T).map BAt.I).head?=aD X->blockLt X ⟨xk,xn,r.map LAt.I⟩=false)) from fun B P=>⟨fun h=>⟨y,T,rfl,by rw[P,h]⟩,fun h X cg=>by cases cg;rw[P,h]⟩);generalize bp:blockLt y.I ⟨xk,xn,r.map LAt.I⟩=LT at bo;have ch:=Aa bp;clear bp ac ax bn s ab z0 O z2 Z aa bg bh bi bj;generalize y.aa=yk at *;generalize y.name=yn at *;refine AQ (by kernel_rfl) (by kernel_rfl) ?_;iterate 12 quiet_step (fail)
    quiet_step ((go_at_call 59;refine DH (bo _)))
    quiet_step (fail)
    refine wpQuiet_nil ?_;rintro _ ⟨⟨ce,aw⟩,rfl⟩;go_wp2_with fail
    go_meet;exact⟨LT,rfl,cf.out LT ch.out,aw⟩
  case rest =>
   obtain⟨d,ci⟩:∃d,d=wc:=⟨_,rfl⟩;subst ci;obtain⟨B,rfl,P,bk'⟩:=hcut;have cj:=N.trans (bk'.mono N.size);cases B
   ·have ck:=Aa (P.out.2 rfl);have bq:=(bk'.block w.heap.size (by omega)).trans z0;have ay:=(bk'.block (w.heap.size+1) (by omega)).trans O;have cl:=(bk'.block (w.heap.size+2) (by omega)).trans z2;have br:=au.trans (bk'.mono au.size);have c2:=Ab bq 0;have I:=Ab ay 0;have J:=Ab ay 1;have L:=Ab ay 2;simp only[aJ,aG,aK]at c2 I J L;have bt:=Aa (Z.out.V br);have da:(0:Int)<=(D.length:Int):=by omega
    have db:(D.length:Int)<=(o:Int):=by omega
    have dc:o<=lc:=by exact Z.out.cap.1
    have dd:(o:Int)<=(lc:Int):=by omega
    have de:(D.length:Int)<=(lc:Int):=by omega
    have bu:d.drew.cell? ⟨w.heap.size,0,aC⟩=aD (aB la o lc)/\d.drew.cell? ⟨w.heap.size+1,0,aC⟩=aD (aA xk)/\d.drew.cell? ⟨w.heap.size+1,1,aC⟩=aD (aA xn)/\d.drew.cell? ⟨w.heap.size+1,2,aC⟩=aD (aB xa l xc):=⟨c2,I,J,L⟩;have df:=fun p:{ W:World // W.cell? ⟨w.heap.size,0,aC⟩=aD (aB la o lc)/\W.cell? ⟨w.heap.size+1,0,aC⟩=aD (aA xk)/\W.cell? ⟨w.heap.size+1,1,aC⟩=aD (aA xn)/\W.cell? ⟨w.heap.size+1,2,aC⟩=aD (aB xa l xc) }=>p.2.1
    have dg:=fun p:{ W:World // W.cell? ⟨w.heap.size,0,aC⟩=aD (aB la o lc)/\W.cell? ⟨w.heap.size+1,0,aC⟩=aD (aA xk)/\W.cell? ⟨w.heap.size+1,1,aC⟩=aD (aA xn)/\W.cell? ⟨w.heap.size+1,2,aC⟩=aD (aB xa l xc) }=>p.2.2.1
    have dh:=fun p:{ W:World // W.cell? ⟨w.heap.size,0,aC⟩=aD (aB la o lc)/\W.cell? ⟨w.heap.size+1,0,aC⟩=aD (aA xk)/\W.cell? ⟨w.heap.size+1,1,aC⟩=aD (aA xn)/\W.cell? ⟨w.heap.size+1,2,aC⟩=aD (aB xa l xc) }=>p.2.2.2.1
    have di:=fun p:{ W:World // W.cell? ⟨w.heap.size,0,aC⟩=aD (aB la o lc)/\W.cell? ⟨w.heap.size+1,0,aC⟩=aD (aA xk)/\W.cell? ⟨w.heap.size+1,1,aC⟩=aD (aA xn)/\W.cell? ⟨w.heap.size+1,2,aC⟩=aD (aB xa l xc) }=>p.2.2.2.2
    clear P v2 av u1 u2 ac;go_upto_region 4 with fail
    letI:Inhabited { W:World // W.cell? ⟨w.heap.size,0,aC⟩=aD (aB la o lc)/\W.cell? ⟨w.heap.size+1,0,aC⟩=aD (aA xk)/\W.cell? ⟨w.heap.size+1,1,aC⟩=aD (aA xn)/\W.cell? ⟨w.heap.size+1,2,aC⟩=aD (aB xa l xc) }:=⟨⟨d.drew,bu⟩⟩;refine AW (S:=fun W=>W.cell? ⟨w.heap.size,0,aC⟩=aD (aB la o lc)/\W.cell? ⟨w.heap.size+1,0,aC⟩=aD (aA xk)/\W.cell? ⟨w.heap.size+1,1,aC⟩=aD (aA xn)/\W.cell? ⟨w.heap.size+1,2,aC⟩=aD (aB xa l xc)) 15 16 (by kernel_rfl) rfl ?_;refine AF [false,true,true,true,true,false,true,false,false,true,true,true,true,false,false,false] 7 rfl (by kernel_rfl) bu ?_;simp only[AU,AV,AR];iterate 9 (refine Av (fun K j=>?_);go_simp;refine j _ ?_;clear j K)
    refine A4 ?_;have C:=Aa (show ∀u,Below d.heap.size d u->u.cell? ⟨w.heap.size,0,aC⟩=aD (aB la o lc)/\u.cell? ⟨w.heap.size+1,0,aC⟩=aD (aA xk)/\u.cell? ⟨w.heap.size+1,1,aC⟩=aD (aA xn)/\u.cell? ⟨w.heap.size+1,2,aC⟩=aD (aB xa l xc) from fun u ap=>⟨(ap.cell (aE d _ c2)).trans c2,(ap.cell (aE d _ I)).trans I,(ap.cell (aE d _ J)).trans J,(ap.cell (aE d _ L)).trans L⟩);have az:=Aa (show Ap d (aB la D.length lc) D.length 3 (D.flatMap BAt.cells) from by
     have h1:=bt.out;have ae:=h1.take D.length be;rw[s.out,aV,<-Bn BAt.cells 3 BAt.len D,bX]at ae;exact ae)
    have bw:=Aa (show Ap d (aB (if lc=D.length then la else la.map (fun a=>a.add (D.length*3))) (o-D.length) (lc-D.length)) (o-D.length) 3 (T.flatMap BAt.cells) from by
     have h1:=bt.out;have ae:=h1.drop D.length be;rw[s.out,aV,<-Bn BAt.cells 3 BAt.len D,bY,Bn BAt.cells 3 BAt.len D]at ae;exact ae)
    have a0:=Aa (Fu (bs:=D) (fun y ad=>aa.out y (by rw[s.out];simp[ad])));have cm:=Aa (Fu (bs:=T) (fun y ad=>aa.out y (by rw[s.out];simp[ad])));obtain⟨i0,af,ag,ah,ai⟩:=info_parts Bg;generalize (if lc=D.length then la else la.map (fun a=>a.add (D.length*3)))=dj at bw⊢;refine Ae (f:=6) (rs:=[0,7]) (by kernel_rfl) (by simp) ?_;refine Af.cons rfl (by decide) (fun K j=>?wayA) (Af.cons rfl (by decide) (fun K j=>?wayB) Af.nil);case' wayA =>
     go_simp;have Q:Below d.heap.size d (d.alloc (aH #[] 46)).drew:=((aO d.heap.size d).alloc (aM _) (aH #[] 46)).drew;have aq:(d.alloc (aH #[] 46)).drew.ownsRow d.heap.size 46 3 (aB (aD ⟨d.heap.size,0,aC⟩) 0 0) 0 []:=bA (base:=d.heap.size) (e:=46) (size:=3) d #[] 0 (aM _) (by decide) rfl;refine j.out _ _ (C.out _ Q) ?_;clear j K;refine Ae (f:=5) (rs:=[5,7]) (by kernel_rfl) (by simp) ?_;refine Af.cons rfl (by decide) (fun K j=>?wayA1) (Af.cons rfl (by decide) (fun K j=>?wayA2) Af.nil)
    case' wayA1 =>
     refine AC rfl _ _ 23 rfl d.heap.size 46 i0 _ 3 56 underlying23 af ag ah ai rfl (by decide) _ 0 _ rfl aq _ D.length _ rfl (az.out.V Q) a0.out (by unfold maxLen;omega) (by omega) Q.size ?_;intro a1 c5 bx a2 E _;simp only[bD]at a2⊢;have R:=Q.grown E Q.size (fun q H=>by cases H;exact aM _);refine j.out _ _ (C.out _ R) ?_;clear j K;refine Ae (f:=4) (rs:=[7]) (by kernel_rfl) (by simp) ?_;refine Af.cons rfl (by decide) (fun K j=>?_) Af.nil;go_simp;have F:=R.alloc R.size (aH #[aA xk,aA xn,aB xa l xc] 46);have M:=a2.alloc (aH #[aA xk,aA xn,aB xa l xc] 46);have aj:=Bz bx #[aA xk,aA xn,aB xa l xc] 46 3 rfl;refine j.out _ _ (C.out _ F) ?_;clear j K;generalize bx.alloc (aH #[aA xk,aA xn,aB xa l xc] 46)=U at F M aj⊢;clear a2 E R aq Q
    case' wayA2 =>
     go_simp;have t:Below d.heap.size d ((d.alloc (aH #[] 46)).alloc (aH #[aA xk,aA xn,aB xa l xc] 46)).drew:=(((aO d.heap.size d).alloc (aM _) (aH #[] 46)).alloc (by simp) _).drew;have o7:((d.alloc (aH #[] 46)).alloc (aH #[aA xk,aA xn,aB xa l xc] 46)).drew.ownsRow d.heap.size 46 3 (aB (aD ⟨d.heap.size,0,aC⟩) 0 0) 0 []:=aq.alloc (aH #[aA xk,aA xn,aB xa l xc] 46);have ak:Ap ((d.alloc (aH #[] 46)).alloc (aH #[aA xk,aA xn,aB xa l xc] 46)).drew (aB (aD ⟨d.heap.size+1,0,aC⟩) 1 1) 1 3 [aA xk,aA xn,aB xa l xc]:=by
      have:=Bz (d.alloc (aH #[] 46)) #[aA xk,aA xn,aB xa l xc] 46 3 rfl;rw[bB]at this;exact this
     refine j.out _ _ (C.out _ t) ?_;clear j K;refine Ae (f:=4) (rs:=[5]) (by kernel_rfl) (by simp) ?_;refine Af.cons rfl (by decide) (fun K j=>?_) Af.nil;refine AC rfl _ _ 23 rfl d.heap.size 46 i0 _ 3 56 underlying23 af ag ah ai rfl (by decide) _ 0 _ rfl o7 _ D.length _ rfl (az.out.V t) a0.out (by unfold maxLen;omega) (by omega) t.size ?_;intro a1 c5 U M E _;simp only[bD]at M⊢;have F:=t.grown E t.size (fun q H=>by cases H;exact aM _);have aj:=ak.far (.inr (fun b off m c e=>by cases e;show d.heap.size+1≠d.heap.size;omega)) E;refine j.out _ _ (C.out _ F) ?_;clear j K o7 ak E t aq Q
    case' wayB =>
     go_simp;have bz:Below d.heap.size d (d.alloc (aH #[aA xk,aA xn,aB xa l xc] 46)).drew:=((aO d.heap.size d).alloc (aM _) _).drew;refine j.out _ _ (C.out _ bz) ?_;clear j K;refine Ae (f:=5) (rs:=[0]) (by kernel_rfl) (by simp) ?_;refine Af.cons rfl (by decide) (fun K j=>?_) Af.nil;go_simp;have t:Below d.heap.size d ((d.alloc (aH #[aA xk,aA xn,aB xa l xc] 46)).alloc (aH #[] 46)).drew:=(((aO d.heap.size d).alloc (aM _) _).alloc (by simp) _).drew;have o7:((d.alloc (aH #[aA xk,aA xn,aB xa l xc] 46)).alloc (aH #[] 46)).drew.ownsRow d.heap.size 46 3 (aB (aD ⟨d.heap.size+1,0,aC⟩) 0 0) 0 []:=by
      have:=bA (base:=d.heap.size) (e:=46) (size:=3) (d.alloc (aH #[aA xk,aA xn,aB xa l xc] 46)) #[] 0 (by simp) (by decide) rfl;rw[bB]at this;exact this
     have ak:Ap ((d.alloc (aH #[aA xk,aA xn,aB xa l xc] 46)).alloc (aH #[] 46)).drew (aB (aD ⟨d.heap.size,0,aC⟩) 1 1) 1 3 [aA xk,aA xn,aB xa l xc]:=(Bz d #[aA xk,aA xn,aB xa l xc] 46 3 rfl).V ((aO _ _).alloc (aM _) _).drew;refine j.out _ _ (C.out _ t) ?_;clear j K;refine Ae (f:=4) (rs:=[5]) (by kernel_rfl) (by simp) ?_;refine Af.cons rfl (by decide) (fun K j=>?_) Af.nil;refine AC rfl _ _ 23 rfl d.heap.size 46 i0 _ 3 56 underlying23 af ag ah ai rfl (by decide) _ 0 _ rfl o7 _ D.length _ rfl (az.out.V t) a0.out (by unfold maxLen;omega) (by omega) t.size ?_;intro a1 c5 U M E _;simp only[bD]at M⊢;have F:=t.grown E t.size (fun q H=>by cases H;show d.heap.size<=d.heap.size+1;omega);have aj:=ak.far (.inr (fun b off m c e=>by cases e;show d.heap.size≠d.heap.size+1;omega)) E;refine j.out _ _ (C.out _ F) ?_;clear j K o7 ak E t bz
    all_goals
     refine Ae (f:=3) (rs:=[8]) (by kernel_rfl) (by simp) ?_;refine Af.cons rfl (by decide) (fun K j=>?_) Af.nil;have b1:∀q,(bI a1 (D.length) c5).ownBlock=aD q->d.heap.size<=q:=fun q H=>(M.lt q H).1
     refine AC rfl _ _ 23 rfl d.heap.size 46 i0 _ 3 56 underlying23 af ag ah ai rfl (by decide) _ (D.length) _ rfl M _ 1 _ rfl aj (by intro al G;simp at G;rcases G with rfl | rfl | rfl <;> rfl) (by unfold maxLen;omega) (by omega) F.size ?_
     intro cn co dk a3 b2 _;have Y:=F.grown b2 F.size b1;refine j.out _ _ (C.out _ Y) ?_;clear j K;refine Ae (f:=2) (rs:=[13]) (by kernel_rfl) (by simp) ?_;refine Af.cons rfl (by decide) (fun K j=>?_) Af.nil;have b3:∀q,(bI cn (D.length+1) co).ownBlock=aD q->d.heap.size<=q:=fun q H=>(a3.lt q H).1
     refine AC rfl _ _ 23 rfl d.heap.size 46 i0 _ 3 56 underlying23 af ag ah ai rfl (by decide) _ (D.length+1) _ rfl a3 _ (o-D.length) _ rfl (bw.out.V Y) cm.out (by unfold maxLen;omega) (by omega) Y.size ?_;intro z c9 a4 b4 b5 _;have am:=Y.grown b5 Y.size b3;refine j.out _ _ (C.out _ am) ?_;clear j K M aj a3 b2 b5 b1 b3 Y F;refine Ae (f:=1) (rs:=[14]) (by kernel_rfl) (by simp) ?_;refine Af.cons rfl (by decide) (fun K j=>?_) Af.nil;go_simp;refine j.out _ _ (C.out _ am) ?_;clear j K;have b6:=(am.block w.heap.size (by have:=bk'.size;omega)).trans bq;have cp:=(am.block (w.heap.size+2) (by have:=bk'.size;omega)).trans cl;have cq:=Ab b6 0;have dl:=Ad b6 0;simp only[aJ,aG]at cq;refine AK (by kernel_rfl) rfl (by kernel_rfl) ?_;intro K j;have dm:w.heap.size+3<=d.heap.size:=by have:=bk'.size;omega
     have cr:=br.trans (am.mono (by omega));have cs:=Aa b4;have b7:(a4.setCell ⟨w.heap.size,0,aC⟩ (aB z (D.length+1+(o-D.length)) c9)).heap[w.heap.size+2]?=aD (aH #[aB aC 0 0] 25 (0,0)):=by rw[bR _ _ _ _ (by simp)];exact cp
     clear b4;generalize b8:D.length+1+(o-D.length)=A at *;have ct:=Aa b8;clear b8;go_simp;refine j.out _ _ (aU ?_);clear j K;go_wp2_with (with_reducible show wpList _ _ _ (bU _ (bS _ (bL 4) _) _ _ _ _::_) _ _;refine wpList_store_row rfl 25 _ _ rfl (w.heap.size+2) #[aB z A c9] ?_ ?_ 25 _ b7 ?_ ?_ ?_ ?_)
     all_goals (first | rfl | kernel_rfl | exact AB | skip)
     have z5:(bC (a4.setCell ⟨w.heap.size,0,aC⟩ (aB z A c9)) (w.heap.size+2) #[aB z A c9]).heap[w.heap.size+2]?=aD (aH #[aB z A c9] 25 (0,0)):=setRow_heap _ _ _ _ _ _ b7;have an:=cr.setCell (p:=⟨w.heap.size,0,aC⟩) (aM _) (aB z A c9)
     have R:Below w.heap.size w (bC (a4.setCell ⟨w.heap.size,0,aC⟩ (aB z A c9)) (w.heap.size+2) #[aB z A c9]) :=
      ⟨an.os,an.tape,an.output,by rw[setRow_size];exact an.size,fun k cu=>by rw[setRow_other _ _ _ _ (by omega)];exact an.block k cu⟩
     have o5:=Cu (GI (BA cs.out ⟨w.heap.size,0,aC⟩ (by simp;omega) (aB z A c9)) (w.heap.size+2) (by omega) #[aB z A c9]) (show w.heap.size<=d.heap.size by omega);have a5:=Ab z5 0;simp only[aJ,aG]at a5;generalize bC _ _ _=W at R a5 z5 o5⊢;have cv:(D++(⟨xk,xn,aB xa l xc,r⟩:BAt)::T).map BAt.I=Cb blockLt ⟨xk,xn,r.map LAt.I⟩ (bl.map BAt.I):=by
      have h1:=FW blockLt ⟨xk,xn,r.map LAt.I⟩ (D.map BAt.I) (T.map BAt.I) ab.out ck.out;rw[show (bl.map BAt.I)=D.map BAt.I++T.map BAt.I from by rw[s.out];simp];exact(show _=_ from by simp[BAt.I]).trans h1.symm
     have cw:W.ownsRow w.heap.size 46 3 (aB z A c9) (D++(⟨xk,xn,aB xa l xc,r⟩:BAt)::T).length ((D++(⟨xk,xn,aB xa l xc,r⟩:BAt)::T).flatMap BAt.cells):=by
      have cx:(D++(⟨xk,xn,aB xa l xc,r⟩:BAt)::T).length=A:=by
       have h1:=ao.out;rw[s.out]at h1;rw[<-ct.out];simp at h1⊢;omega
      have cy:(D++(⟨xk,xn,aB xa l xc,r⟩:BAt)::T).flatMap BAt.cells=[]++D.flatMap BAt.cells++[aA xk,aA xn,aB xa l xc]++T.flatMap BAt.cells:=by simp[BAt.cells]
      rw[cx,cy];exact o5
     exact bodyPost_ret (v:=aP #[aB z A c9]) (by simp[results,results54,go_sem,a5]) rfl ⟨_,D,T,s.out,rfl,cv,cw,R⟩
   ·obtain⟨y,V,rfl,b9⟩:=P.out.1 rfl;have cz:Hid (bl=(D++[y])++V):=by have:=s.out;show bl=_;rw[this];simp
    have c0:Hid (∀al∈(D++[y]).map BAt.I,blockLt al ⟨xk,xn,r.map LAt.I⟩=true):=by
     show ∀al∈_,_
     intro al G;rw[bM,bH]at G;rcases G with G | G
     ·exact ab.out al G
     ·simp only[aT,aZ,bJ]at G;rw[G];exact b9
    have dn:D.length<o:=by have:=ao.out;rw[s.out]at this;simp at this;omega
    clear P v2 av u1 u2 ac s ab b9 z0 O z2;go_wp2;go_roundw;case rel=>exact⟨D++[y],V,by simp,by simp;omega,cz,c0,cj⟩
    case measure=>simp[intOf];omega
variable {B p q:Nat}{w':World}{v:Value}{bs:List BAt}{ls:List LAt}
theorem Bh{a:World}(h:Below B a w)(b:B<=w.heap.size)(d:B<=p)(g:w.grownBy w' (aD p)):Below B a w' :=
 h.grown g b (fun k c=>by simp at c;omega)
theorem Ba(W:World)(R:Nat)(cs:Array Value):W.grownBy (W.setRow R cs) (aD R):=⟨rfl,rfl,rfl,by rw[setRow_size];exact aM _,fun i _ a=>setRow_other _ _ _ _ (fun e=>a (by rw[e]))⟩
def Aev(R:List Plain)(b:BAt)(x:LAt)(w:World)(e:Ending)(w':World):Prop:=∃a n c ls',e=aR (aP #[aA b.aa,aA b.name,aB a n c])/\(ls'.map LAt.I=Cb (lineLt R) x.I (b.ls.map LAt.I)/\ls'.length=b.ls.length+1/\(∀y∈ls',y=x\/y∈b.ls)/\An w' (aB a n c) ls'/\∀q,q<w.heap.size->Ay q b.v b.ls->Cc q x.v x.ws.length->Ay q (aB a n c) ls')/\Below w.heap.size w w'
theorem IG{b:BAt}{x:LAt}(i:AH w b)(l:Ah b.ls)(j:BL w x)(m:x.ws.length<=1048576):Calls prog 86 #[aP #[aA b.aa,aA b.name,b.v],aP #[aA x.key,x.v]] w fun e w'=>Aev (rulesOf b.aa) b x w e w':=by
 refine(OC i l j m).mono ?_;rintro e w' ⟨v',D,T,k,rfl,n,f,g⟩;obtain⟨a,c,rfl,_⟩:=Ak f;have h:∀y∈D++x::T,y=x\/y∈b.ls:=by
  intro y d;rw[k];simp only[bH,bZ]at d⊢;rcases d with d | rfl | d
  ·exact .inr (.inl d)
  ·exact .inl rfl
  ·exact .inr (.inr d)
 refine⟨a,_,c,D++x::T,rfl,⟨n,by rw[k];simp;omega,h,⟨AG f,fun y d=>?_⟩,fun q o p r=>⟨Cc.above f o,fun y d=>?_⟩⟩,g⟩
 ·rcases h y d with rfl | d
  ·exact j.V g
  ·exact(i.2 y d).V g
 ·rcases h y d with rfl | d
  ·exact r
  ·exact p.2 y d
def AD(q:Nat)(v:Value)(bs:List BAt):Prop:=Cc q v bs.length/\∀x∈bs,Ay q x.v x.ls
theorem As.far(h:As w v bs)(a:AD q v bs)(b:w.grownBy w' (aD q)):As w' v bs:=⟨h.1.far a.1 b,fun x c=>An.far (h.2 x c) (a.2 x c) b⟩
theorem Aq.far(h:Aq B w v bs)(a:q<B):AD q v bs :=
 ⟨Cc.above h.row a,fun x b=>⟨Cc.above (h.ac x b).row a,fun y c=>Cc.above ((h.ac x b).words y c) a⟩⟩
def Qq(v:Value)(bs:List BAt)(x:BAt)(w:World)(e:Ending)(w':World):Prop:=∃a n c bs',e=aR (aP #[aB a n c])/\(bs'.map BAt.I=Cb blockLt x.I (bs.map BAt.I)/\bs'.length=bs.length+1/\(∀y∈bs',y=x\/y∈bs)/\As w' (aB a n c) bs'/\∀q,q<w.heap.size->AD q v bs->Ay q x.v x.ls->AD q (aB a n c) bs')/\Below w.heap.size w w'
theorem BU{x:BAt}(d:As w v bs)(k:bs.length<=1048576)(i:AH w x):Calls prog 54 #[aP #[v],aP #[aA x.aa,aA x.name,x.v]] w fun e w'=>Qq v bs x w e w':=by
 refine(N0 d.1 (fun y b=>by obtain⟨a,c,e⟩:=(d.2 y b).1.ae;exact⟨a,_,c,e⟩) k (by obtain⟨a,c,e⟩:=i.1.ae;exact⟨a,_,c,e⟩)).mono ?_;rintro e w' ⟨v',D,T,j,rfl,l,f,g⟩;obtain⟨a,c,rfl,_⟩:=Ak f;have h:∀y∈D++x::T,y=x\/y∈bs:=by
  intro y b;rw[j];simp only[bH,bZ]at b⊢;rcases b with b | rfl | b
  ·exact .inr (.inl b)
  ·exact .inl rfl
  ·exact .inr (.inr b)
 refine⟨a,_,c,D++x::T,rfl,⟨l,by rw[j];simp;omega,h,⟨AG f,fun y b=>?_⟩,fun q m n o=>⟨Cc.above f m,fun y b=>?_⟩⟩,g⟩
 ·rcases h y b with rfl | b
  ·exact An.V i g
  ·exact An.V (d.2 y b) g
 ·rcases h y b with rfl | b
  ·exact o
  ·exact n.2 y b
theorem An.fresh(h:An w v ls)(a:w.heap.size<=q):Ay q v ls:=⟨Cc.of_lt h.1 (by decide) a,fun y b=>Cc.of_lt (h.2 y b) (by decide) a⟩
variable {W W0:World}{X O i b0 off c bc xn xc U:Nat}{v':Value}{Q:Exit -> Act -> World -> Prop}{a:Act}{kind name:ByteArray}{ba xa:Option Addr}
theorem AT(W:World)(g j:Nat)(u:Value):W.grownBy (W.setCell ⟨g,j,aC⟩ u) (aD g):=⟨rfl,rfl,rfl,by simp,fun i _ a=>heap_setCell_other W ⟨g,j,aC⟩ i _ (fun e=>a (by simp[e]))⟩
theorem N4{k n k' n':ByteArray}(h:W.heap[X]?=aD (aH #[aA k,aA n,v] 46 (0,0))):(((W.setCell ⟨X,0,aC⟩ (aA k')).setCell ⟨X,1,aC⟩ (aA n')).setCell ⟨X,2,aC⟩ v').heap[X]?=aD (aH #[aA k',aA n',v'] 46 (0,0))/\W.grownBy (((W.setCell ⟨X,0,aC⟩ (aA k')).setCell ⟨X,1,aC⟩ (aA n')).setCell ⟨X,2,aC⟩ v') (aD X):=by
 have a:(W.setCell ⟨X,0,aC⟩ (aA k')).heap[X]?=aD (aH #[aA k',aA n,v] 46 (0,0)):=by rw[heap_setCell_same W X 0 _ _ _ h];rfl
 have z2:((W.setCell ⟨X,0,aC⟩ (aA k')).setCell ⟨X,1,aC⟩ (aA n')).heap[X]?=aD (aH #[aA k',aA n',v] 46 (0,0)):=by rw[heap_setCell_same _ X 1 _ _ _ a];rfl
 refine⟨?_,Ar (AT W X 0 _) (Ar (AT _ X 1 _) (AT _ X 2 _))⟩;rw[heap_setCell_same _ X 2 _ _ _ z2];rfl
def OvF(_X O i b0 off n c:Nat)(kind name key:ByteArray)(bv xv:Value)(J:Value->World->Prop)(j:Nat)(x:Value)(W:World):Prop:=match j with
 | 0=>x=aP #[aA kind,aA name,bv]
 | 1=>x=aI (aD ⟨O,2,aC⟩)
 | 2=>x=aB (aD ⟨b0,off,aC⟩) n c
 | 3=>x=.int .i64 (i:Int)
 | 4=>x=aI (aD ⟨b0,off+i*2,aC⟩)
 | 5=>x=aP #[aA key,xv]
 | 6=>∃a m b,x=aP #[aA kind,aA name,aB a m b]/\J (aB a m b) W
 | _=>True
def Qr: Oper := ⟨aD 20, .load 46 (.tmp 5), 46, "l6_over.go:9", #[], aC⟩
def Qs: Oper := ⟨aD 21, .fieldAddr 46 (.tmp 3) 2, 0, "l6_over.go:9", #[], aC⟩
def Qt: Oper := ⟨aD 22, .load 44 (.tmp 21), 44, "l6_over.go:9", #[⟨1, .data⟩], aC⟩
def Qu: Oper := ⟨aD 23, .move (.tmp 6), 3, "l6_over.go:9", #[], aC⟩
def Qv: Oper := ⟨aD 24, .indexAddr 44 (.tmp 22) (.tmp 23), 0, "l6_over.go:9", #[⟨2, .data⟩, ⟨3, .data⟩], aC⟩
def Qw: Oper := ⟨aD 25, .load 115 (.tmp 24), 115, "l6_over.go:9", #[⟨4, .data⟩], aC⟩
def Qx: Oper := ⟨aD 26, .call { callee := .value (.func 86), args := #[.tmp 20, .tmp 25], argTypes := #[46, 115] }, 46, "l6_over.go:9", #[⟨0, .data⟩, ⟨5, .data⟩], aC⟩
def Qy: Oper := ⟨aC, .store 46 (.tmp 5) (.tmp 26), 0, "l6_over.go:9", #[⟨6, .data⟩, ⟨6, .chain⟩, ⟨0, .phase⟩, ⟨1, .phase⟩, ⟨2, .phase⟩, ⟨3, .phase⟩, ⟨4, .phase⟩, ⟨5, .phase⟩, ⟨6, .phase⟩], aC⟩
def Afx:List Oper:=[Qr,Qs,Qt,Qu,Qv,Qw,Qx,Qy]
def LI: Oper := ⟨aD 44, .load 46 (.tmp 5), 46, "l6_over.go:13", #[], aC⟩
def LJ: Oper := ⟨aD 45, .fieldAddr 46 (.tmp 2) 2, 0, "l6_over.go:13", #[], aC⟩
def LK: Oper := ⟨aD 46, .load 44 (.tmp 45), 44, "l6_over.go:13", #[⟨1, .data⟩], aC⟩
def LL: Oper := ⟨aD 47, .move (.tmp 7), 3, "l6_over.go:13", #[], aC⟩
def LN: Oper := ⟨aD 48, .indexAddr 44 (.tmp 46) (.tmp 47), 0, "l6_over.go:13", #[⟨2, .data⟩, ⟨3, .data⟩], aC⟩
def LO: Oper := ⟨aD 49, .load 115 (.tmp 48), 115, "l6_over.go:13", #[⟨4, .data⟩], aC⟩
def LP: Oper := ⟨aD 50, .call { callee := .value (.func 86), args := #[.tmp 44, .tmp 49], argTypes := #[46, 115] }, 46, "l6_over.go:13", #[⟨0, .data⟩, ⟨5, .data⟩], aC⟩
def LQ: Oper := ⟨aC, .store 46 (.tmp 5) (.tmp 50), 0, "l6_over.go:13", #[⟨6, .data⟩, ⟨6, .chain⟩, ⟨0, .phase⟩, ⟨1, .phase⟩, ⟨2, .phase⟩, ⟨3, .phase⟩, ⟨4, .phase⟩, ⟨5, .phase⟩, ⟨6, .phase⟩], aC⟩
def Aew:List Oper:=[LI,LJ,LK,LL,LN,LO,LP,LQ]
def Qz: Oper := ⟨aD 34, .load 46 (.tmp 3), 46, "l6_over.go:12", #[], aC⟩
def Q0: Oper := ⟨aD 35, .fieldAddr 46 (.tmp 2) 2, 0, "l6_over.go:12", #[], aC⟩
def Q1: Oper := ⟨aD 36, .load 44 (.tmp 35), 44, "l6_over.go:12", #[⟨1, .data⟩], aC⟩
def Q2: Oper := ⟨aD 37, .move (.tmp 7), 3, "l6_over.go:12", #[], aC⟩
def Q3: Oper := ⟨aD 38, .indexAddr 44 (.tmp 36) (.tmp 37), 0, "l6_over.go:12", #[⟨2, .data⟩, ⟨3, .data⟩], aC⟩
def Q4: Oper := ⟨aD 39, .fieldAddr 115 (.tmp 38) 0, 0, "l6_over.go:12", #[⟨4, .data⟩], aC⟩
def Q5: Oper := ⟨aD 40, .load 9 (.tmp 39), 9, "l6_over.go:12", #[⟨5, .data⟩], aC⟩
def Q6: Oper := ⟨aD 41, .call { callee := .value (.func 89), args := #[.tmp 34, .tmp 40], argTypes := #[46, 9] }, 44, "l6_over.go:12", #[⟨0, .data⟩, ⟨6, .data⟩], aC⟩
def Vv: Oper := ⟨aD 42, .call { callee := .builtin .len, args := #[.tmp 41], argTypes := #[44] }, 3, "l6_over.go:12", #[⟨7, .data⟩], aC⟩
def Vw: Oper := ⟨aD 43, .binOp .eql 3 (.tmp 42) (.const (.int .i64 0)) 3, 4, "l6_over.go:12", #[⟨8, .data⟩], aC⟩
def Afy:List Oper:=[Qz,Q0,Q1,Q2,Q3,Q4,Q5,Q6,Vv,Vw]
theorem Aaf{bn:Nat}{key:ByteArray}(P:World->Value->World->Prop)(G:W0.heap[X]?=aD (aH #[aA kind,aA name,(aB ba bn bc)] 46 (0,0)))(H:W0.cell? ⟨O,2,aC⟩=aD (aB (aD ⟨b0,off,aC⟩) n c))(I:W0.cell? ⟨b0,off+i*2,aC⟩=aD (aA key))(J:W0.cell? ⟨b0,off+i*2+1,aC⟩=aD (aB xa xn xc))(M:i<n)(N:∀W,Below W0.heap.size W0 W->Calls prog 86 #[aP #[aA kind,aA name,(aB ba bn bc)],aP #[aA key,(aB xa xn xc)]] W fun e w'=>∃q m t,e=aR (aP #[aA kind,aA name,aB q m t])/\P W (aB q m t) w'/\Below W.heap.size W w')
  (E:a.eval (.tmp 5)=aI (aD ⟨X,0,aC⟩)) (R:a.eval (.tmp 3)=aI (aD ⟨O,0,aC⟩)) (S:a.eval (.tmp 6)=.int .i64 (i:Int)) (al:a.tmps.size=52)
  (T:∀v a' q m t W1 W2,a'=Ai a [20,21,22,23,24,25,26] v->Below W0.heap.size W0 W1->P W1 (aB q m t) W2->Below W1.heap.size W1 W2->Q .normal a' (((W2.setCell ⟨X,0,aC⟩ (aA kind)).setCell ⟨X,1,aC⟩ (aA name)).setCell ⟨X,2,aC⟩ (aB q m t))):(bE 5 Afx.toArray true).wp prog Q a W0:=by
 have r:([20,21,22,23,24,25,26]:List Nat).Nodup:=by decide
 have i3:(0:Int)<=(i:Int):=by omega
 have i4:(i:Int)<(n:Int):=by omega
 refine Be [20,21,22,23,24,25,26] (OvF X O i b0 off n c kind name key (aB ba bn bc) (aB xa xn xc) (fun v W=>∃W1,Below W0.heap.size W0 W1/\P W1 v W/\Below W1.heap.size W1 W)) (fun _ W=>W.heap[X]?=aD (aH #[aA kind,aA name,(aB ba bn bc)] 46 (0,0))/\W.cell? ⟨O,2,aC⟩=aD (aB (aD ⟨b0,off,aC⟩) n c)/\W.cell? ⟨b0,off+i*2,aC⟩=aD (aA key)/\W.cell? ⟨b0,off+i*2+1,aC⟩=aD (aB xa xn xc)/\Below W0.heap.size W0 W) 7 8 [0,1,2,3,4,5,6,7] (by kernel_rfl) rfl (by decide) (by kernel_rfl) ?h1 ⟨G,H,I,J,(aO _ _).drew⟩ ?hall;case h1 =>
  intro i x W M;unfold OvF;split <;> first | omega | trivial
 refine Ag.ad (o:=Qr) [] (by kernel_rfl) (by decide) (by kernel_rfl) rfl ?o0 (Ag.ad (o:=Qs) [] (by kernel_rfl) (by decide) (by kernel_rfl) rfl ?o1 (Ag.ad (o:=Qt) [1] (by kernel_rfl) (by decide) (by kernel_rfl) rfl ?o2 (Ag.ad (o:=Qu) [] (by kernel_rfl) (by decide) (by kernel_rfl) rfl ?o3 (Ag.ad (o:=Qv) [2,3] (by kernel_rfl) (by decide) (by kernel_rfl) rfl ?o4 (Ag.ad (o:=Qw) [4] (by kernel_rfl) (by decide) (by kernel_rfl) rfl ?o5 (Ag.ad (o:=Qx) [0,5] (by kernel_rfl) (by decide) (by kernel_rfl) rfl ?o6 (Ag.lastQ (o:=Qy) [6,6,0,1,2,3,4,5,6] (by kernel_rfl) (by kernel_rfl) rfl ?o7)))))));case o0 =>
  rintro w L _ W u s ⟨v,rfl,f,b,k,c0,l,g⟩ K p;have z:=Ab b 0;have A:=Ab b 1;have B:=Ab b 2;simp only[aJ,aG,aK]at z A B;have C:=(A1 (v:=v) (show 5 ∉ ([20,21,22,23,24,25,26]:List Nat) by decide)).trans E;have d : execOp (Ai a [20, 21, 22, 23, 24, 25, 26] v).eval Qr = execOp (aL ⟨#[undef], []⟩) ⟨aD 0, .load 46 (.const (aI (aD ⟨X, 0, aC⟩))), 0, "", #[], aC⟩ := by simp only[execOp, Ac, Qr, C]
  refine Br.mk ?_;unfold aN;rw[d];clear d;go_simp;exact p.out _ _ (A7.ag (W:=W) f 0 (aP #[aA kind,aA name,(aB ba bn bc)]) (Ao 0 r rfl) (fun _ _ _ h=>h) rfl ⟨b,k,c0,l,g⟩)
 case o1 =>
  rintro w L _ W u s ⟨v,rfl,f,b,k,c0,l,g⟩ K p;have U:=(A1 (v:=v) (show 3 ∉ ([20,21,22,23,24,25,26]:List Nat) by decide)).trans R;have d : execOp (Ai a [20, 21, 22, 23, 24, 25, 26] v).eval Qs = execOp (aL ⟨#[undef], []⟩) ⟨aD 0, .fieldAddr 46 (.const (aI (aD ⟨O, 0, aC⟩))) 2, 0, "", #[], aC⟩ := by simp only[execOp, Ac, Qs, U]
  refine Br.mk ?_;unfold aN;rw[d];clear d;go_simp;exact p.out _ _ (A7.ag (W:=W) f 1 (aI (aD ⟨O,2,aC⟩)) (Ao 1 r rfl) (fun _ _ _ h=>h) rfl ⟨b,k,c0,l,g⟩)
 case o2 =>
  rintro w L _ W u s ⟨v,rfl,f,b,k,c0,l,g⟩ K p;have V:(Ai a [20,21,22,23,24,25,26] v).eval (.tmp 21)=_:=(Aj 1 r rfl (by omega)).trans (f 1 (s 1 (by simp)));have d : execOp (Ai a [20, 21, 22, 23, 24, 25, 26] v).eval Qt = execOp (aL ⟨#[undef], []⟩) ⟨aD 0, .load 44 (.const (aI (aD ⟨O, 2, aC⟩))), 0, "", #[], aC⟩ := by simp only[execOp, Ac, Qt, V]
  refine Br.mk ?_;unfold aN;rw[d];clear d;go_simp;exact p.out _ _ (A7.ag (W:=W) f 2 (aB (aD ⟨b0,off,aC⟩) n c) (Ao 2 r rfl) (fun _ _ _ h=>h) rfl ⟨b,k,c0,l,g⟩)
 case o3 =>
  rintro w L _ W u s ⟨v,rfl,f,b,k,c0,l,g⟩ K p;have Y:=(A1 (v:=v) (show 6 ∉ ([20,21,22,23,24,25,26]:List Nat) by decide)).trans S;have d : execOp (Ai a [20, 21, 22, 23, 24, 25, 26] v).eval Qu = execOp (aL ⟨#[undef], []⟩) ⟨aD 0, .move (.const (.int .i64 (i : Int))), 0, "", #[], aC⟩ := by simp only[execOp, Ac, Qu, Y]
  refine Br.mk ?_;unfold aN;rw[d];clear d;go_simp;exact p.out _ _ (A7.ag (W:=W) f 3 (.int .i64 (i:Int)) (Ao 3 r rfl) (fun _ _ _ h=>h) rfl ⟨b,k,c0,l,g⟩)
 case o4 =>
  rintro w L _ W u s ⟨v,rfl,f,b,k,c0,l,g⟩ K p;have Z:(Ai a [20,21,22,23,24,25,26] v).eval (.tmp 22)=_:=(Aj 2 r rfl (by omega)).trans (f 2 (s 2 (by simp)));have aa:(Ai a [20,21,22,23,24,25,26] v).eval (.tmp 23)=_:=(Aj 3 r rfl (by omega)).trans (f 3 (s 3 (by simp)));have d : execOp (Ai a [20, 21, 22, 23, 24, 25, 26] v).eval Qv = execOp (aL ⟨#[undef], []⟩) ⟨aD 0, .indexAddr 44 (.const (aB (aD ⟨b0, off, aC⟩) n c)) (.const (.int .i64 (i : Int))), 0, "", #[], aC⟩ := by simp only[execOp, Ac, Qv, Z, aa]
  refine Br.mk ?_;unfold aN;rw[d];clear d;go_simp;exact p.out _ _ (A7.ag (W:=W) f 4 (aI (aD ⟨b0,off+i*2,aC⟩)) (Ao 4 r rfl) (fun _ _ _ h=>h) rfl ⟨b,k,c0,l,g⟩)
 case o5 =>
  rintro w L _ W u s ⟨v,rfl,f,b,k,c0,l,g⟩ K p;have ab:(Ai a [20,21,22,23,24,25,26] v).eval (.tmp 24)=_:=(Aj 4 r rfl (by omega)).trans (f 4 (s 4 (by simp)));have d : execOp (Ai a [20, 21, 22, 23, 24, 25, 26] v).eval Qw = execOp (aL ⟨#[undef], []⟩) ⟨aD 0, .load 115 (.const (aI (aD ⟨b0, off + i*2, aC⟩))), 0, "", #[], aC⟩ := by simp only[execOp, Ac, Qw, ab]
  refine Br.mk ?_;unfold aN;rw[d];clear d;go_simp;exact p.out _ _ (A7.ag (W:=W) f 5 (aP #[aA key,(aB xa xn xc)]) (Ao 5 r rfl) (fun _ _ _ h=>h) rfl ⟨b,k,c0,l,g⟩)
 case o6 =>
  rintro w L _ W u s ⟨v,rfl,f,b,k,c0,l,g⟩ K p;have ac:(Ai a [20,21,22,23,24,25,26] v).eval (.tmp 20)=_:=(Aj 0 r rfl (by omega)).trans (f 0 (s 0 (by simp)));have ad:(Ai a [20,21,22,23,24,25,26] v).eval (.tmp 25)=_:=(Aj 5 r rfl (by omega)).trans (f 5 (s 5 (by simp)));have ae:=N W g;have d : execOp (Ai a [20, 21, 22, 23, 24, 25, 26] v).eval Qx = execOp (aL ⟨#[undef], []⟩) ⟨aD 0, .call { callee := .value (.func 86), args := #[.const (aP #[aA kind, aA name, (aB ba bn bc)]), .const (aP #[aA key, (aB xa xn xc)])], argTypes := #[46, 115] }, 0, "", #[], aC⟩ := by simp only[execOp, Ac, Qx, resolve, BQ, aW, aT, aZ, ac, ad]
  refine Br.mk ?_;unfold aN;rw[d];clear d;go_simp;refine ae.mono ?_;rintro e W' ⟨q,m,t,rfl,D,b'⟩;refine p.out _ _ (A7.ag (W:=W) f 6 (aP #[aA kind,aA name,aB q m t]) (Ao 6 r rfl) (fun j y F h=>?_) ⟨q,m,t,rfl,W,g,D,b'⟩ ⟨(b'.block X (aF.1 b).1).trans b,(b'.cell (aE _ _ k)).trans k,(b'.cell (aE _ _ c0)).trans c0,(b'.cell (aE _ _ l)).trans l,g.trans (b'.mono g.size)⟩);have af:j≠6:=fun e=>by rw[e,u]at F;cases F
  unfold OvF at *;split <;> simp only at h
  all_goals first | exact h | exact absurd rfl af | trivial
 case o7 =>
  rintro w L _ W u s ⟨v,rfl,f,b,k,c0,l,g⟩ K p;obtain⟨q,m,t,ag,W1,ah,D,ai⟩:=f 6 (s 6 (by simp));have aj:(Ai a [20,21,22,23,24,25,26] v).eval (.tmp 26)=_:=(Aj 6 r rfl (by omega)).trans ag;have C:=(A1 (v:=v) (show 5 ∉ ([20,21,22,23,24,25,26]:List Nat) by decide)).trans E;have z:=Ab b 0;have A:=Ab b 1;have B:=Ab b 2;simp only[aJ,aG,aK]at z A B;have am:=Ad b 0;have an:=Ad b 1;have ao:=Ad b 2;have ak:=Aa (T v _ q m t W1 W rfl ah D ai);have d : execOp (Ai a [20, 21, 22, 23, 24, 25, 26] v).eval Qy = execOp (aL ⟨#[undef], []⟩) ⟨aD 0, .store 46 (.const (aI (aD ⟨X, 0, aC⟩))) (.const (aP #[aA kind, aA name, aB q m t])), 0, "", #[], aC⟩ := by simp only[execOp, Ac, Qy, C, aj]
  refine Br.mk ?_;unfold aN;rw[d];clear d;go_simp;exact p.out _ _ (aU ak.out)
theorem Yf{bn:Nat}{key:ByteArray}(P:World->Value->World->Prop)(G:W0.heap[X]?=aD (aH #[aA kind,aA name,(aB ba bn bc)] 46 (0,0)))(H:W0.cell? ⟨O,2,aC⟩=aD (aB (aD ⟨b0,off,aC⟩) n c))(I:W0.cell? ⟨b0,off+i*2,aC⟩=aD (aA key))(J:W0.cell? ⟨b0,off+i*2+1,aC⟩=aD (aB xa xn xc))(M:i<n)(N:∀W,Below W0.heap.size W0 W->Calls prog 86 #[aP #[aA kind,aA name,(aB ba bn bc)],aP #[aA key,(aB xa xn xc)]] W fun e w'=>∃q m t,e=aR (aP #[aA kind,aA name,aB q m t])/\P W (aB q m t) w'/\Below W.heap.size W w')
  (E:a.eval (.tmp 5)=aI (aD ⟨X,0,aC⟩)) (R:a.eval (.tmp 2)=aI (aD ⟨O,0,aC⟩)) (S:a.eval (.tmp 7)=.int .i64 (i:Int)) (al:a.tmps.size=52)
  (T:∀v a' q m t W1 W2,a'=Ai a [44,45,46,47,48,49,50] v->Below W0.heap.size W0 W1->P W1 (aB q m t) W2->Below W1.heap.size W1 W2->Q .normal a' (((W2.setCell ⟨X,0,aC⟩ (aA kind)).setCell ⟨X,1,aC⟩ (aA name)).setCell ⟨X,2,aC⟩ (aB q m t))):(bE 10 Aew.toArray true).wp prog Q a W0:=by
 have r:([44,45,46,47,48,49,50]:List Nat).Nodup:=by decide
 have i3:(0:Int)<=(i:Int):=by omega
 have i4:(i:Int)<(n:Int):=by omega
 refine Be [44,45,46,47,48,49,50] (OvF X O i b0 off n c kind name key (aB ba bn bc) (aB xa xn xc) (fun v W=>∃W1,Below W0.heap.size W0 W1/\P W1 v W/\Below W1.heap.size W1 W)) (fun _ W=>W.heap[X]?=aD (aH #[aA kind,aA name,(aB ba bn bc)] 46 (0,0))/\W.cell? ⟨O,2,aC⟩=aD (aB (aD ⟨b0,off,aC⟩) n c)/\W.cell? ⟨b0,off+i*2,aC⟩=aD (aA key)/\W.cell? ⟨b0,off+i*2+1,aC⟩=aD (aB xa xn xc)/\Below W0.heap.size W0 W) 7 8 [0,1,2,3,4,5,6,7] (by kernel_rfl) rfl (by decide) (by kernel_rfl) ?h1 ⟨G,H,I,J,(aO _ _).drew⟩ ?hall;case h1 =>
  intro i x W M;unfold OvF;split <;> first | omega | trivial
 refine Ag.ad (o:=LI) [] (by kernel_rfl) (by decide) (by kernel_rfl) rfl ?o0 (Ag.ad (o:=LJ) [] (by kernel_rfl) (by decide) (by kernel_rfl) rfl ?o1 (Ag.ad (o:=LK) [1] (by kernel_rfl) (by decide) (by kernel_rfl) rfl ?o2 (Ag.ad (o:=LL) [] (by kernel_rfl) (by decide) (by kernel_rfl) rfl ?o3 (Ag.ad (o:=LN) [2,3] (by kernel_rfl) (by decide) (by kernel_rfl) rfl ?o4 (Ag.ad (o:=LO) [4] (by kernel_rfl) (by decide) (by kernel_rfl) rfl ?o5 (Ag.ad (o:=LP) [0,5] (by kernel_rfl) (by decide) (by kernel_rfl) rfl ?o6 (Ag.lastQ (o:=LQ) [6,6,0,1,2,3,4,5,6] (by kernel_rfl) (by kernel_rfl) rfl ?o7)))))));case o0 =>
  rintro w L _ W u s ⟨v,rfl,f,b,k,c0,l,g⟩ K p;have z:=Ab b 0;have A:=Ab b 1;have B:=Ab b 2;simp only[aJ,aG,aK]at z A B;have C:=(A1 (v:=v) (show 5 ∉ ([44,45,46,47,48,49,50]:List Nat) by decide)).trans E;have d : execOp (Ai a [44, 45, 46, 47, 48, 49, 50] v).eval LI = execOp (aL ⟨#[undef], []⟩) ⟨aD 0, .load 46 (.const (aI (aD ⟨X, 0, aC⟩))), 0, "", #[], aC⟩ := by simp only[execOp, Ac, LI, C]
  refine Br.mk ?_;unfold aN;rw[d];clear d;go_simp;exact p.out _ _ (A7.ag (W:=W) f 0 (aP #[aA kind,aA name,(aB ba bn bc)]) (Ao 0 r rfl) (fun _ _ _ h=>h) rfl ⟨b,k,c0,l,g⟩)
 case o1 =>
  rintro w L _ W u s ⟨v,rfl,f,b,k,c0,l,g⟩ K p;have U:=(A1 (v:=v) (show 2 ∉ ([44,45,46,47,48,49,50]:List Nat) by decide)).trans R;have d : execOp (Ai a [44, 45, 46, 47, 48, 49, 50] v).eval LJ = execOp (aL ⟨#[undef], []⟩) ⟨aD 0, .fieldAddr 46 (.const (aI (aD ⟨O, 0, aC⟩))) 2, 0, "", #[], aC⟩ := by simp only[execOp, Ac, LJ, U]
  refine Br.mk ?_;unfold aN;rw[d];clear d;go_simp;exact p.out _ _ (A7.ag (W:=W) f 1 (aI (aD ⟨O,2,aC⟩)) (Ao 1 r rfl) (fun _ _ _ h=>h) rfl ⟨b,k,c0,l,g⟩)
 case o2 =>
  rintro w L _ W u s ⟨v,rfl,f,b,k,c0,l,g⟩ K p;have V:(Ai a [44,45,46,47,48,49,50] v).eval (.tmp 45)=_:=(Aj 1 r rfl (by omega)).trans (f 1 (s 1 (by simp)));have d : execOp (Ai a [44, 45, 46, 47, 48, 49, 50] v).eval LK = execOp (aL ⟨#[undef], []⟩) ⟨aD 0, .load 44 (.const (aI (aD ⟨O, 2, aC⟩))), 0, "", #[], aC⟩ := by simp only[execOp, Ac, LK, V]
  refine Br.mk ?_;unfold aN;rw[d];clear d;go_simp;exact p.out _ _ (A7.ag (W:=W) f 2 (aB (aD ⟨b0,off,aC⟩) n c) (Ao 2 r rfl) (fun _ _ _ h=>h) rfl ⟨b,k,c0,l,g⟩)
 case o3 =>
  rintro w L _ W u s ⟨v,rfl,f,b,k,c0,l,g⟩ K p;have Y:=(A1 (v:=v) (show 7 ∉ ([44,45,46,47,48,49,50]:List Nat) by decide)).trans S;have d : execOp (Ai a [44, 45, 46, 47, 48, 49, 50] v).eval LL = execOp (aL ⟨#[undef], []⟩) ⟨aD 0, .move (.const (.int .i64 (i : Int))), 0, "", #[], aC⟩ := by simp only[execOp, Ac, LL, Y]
  refine Br.mk ?_;unfold aN;rw[d];clear d;go_simp;exact p.out _ _ (A7.ag (W:=W) f 3 (.int .i64 (i:Int)) (Ao 3 r rfl) (fun _ _ _ h=>h) rfl ⟨b,k,c0,l,g⟩)
 case o4 =>
  rintro w L _ W u s ⟨v,rfl,f,b,k,c0,l,g⟩ K p;have Z:(Ai a [44,45,46,47,48,49,50] v).eval (.tmp 46)=_:=(Aj 2 r rfl (by omega)).trans (f 2 (s 2 (by simp)));have aa:(Ai a [44,45,46,47,48,49,50] v).eval (.tmp 47)=_:=(Aj 3 r rfl (by omega)).trans (f 3 (s 3 (by simp)));have d : execOp (Ai a [44, 45, 46, 47, 48, 49, 50] v).eval LN = execOp (aL ⟨#[undef], []⟩) ⟨aD 0, .indexAddr 44 (.const (aB (aD ⟨b0, off, aC⟩) n c)) (.const (.int .i64 (i : Int))), 0, "", #[], aC⟩ := by simp only[execOp, Ac, LN, Z, aa]
  refine Br.mk ?_;unfold aN;rw[d];clear d;go_simp;exact p.out _ _ (A7.ag (W:=W) f 4 (aI (aD ⟨b0,off+i*2,aC⟩)) (Ao 4 r rfl) (fun _ _ _ h=>h) rfl ⟨b,k,c0,l,g⟩)
 case o5 =>
  rintro w L _ W u s ⟨v,rfl,f,b,k,c0,l,g⟩ K p;have ab:(Ai a [44,45,46,47,48,49,50] v).eval (.tmp 48)=_:=(Aj 4 r rfl (by omega)).trans (f 4 (s 4 (by simp)));have d : execOp (Ai a [44, 45, 46, 47, 48, 49, 50] v).eval LO = execOp (aL ⟨#[undef], []⟩) ⟨aD 0, .load 115 (.const (aI (aD ⟨b0, off + i*2, aC⟩))), 0, "", #[], aC⟩ := by simp only[execOp, Ac, LO, ab]
  refine Br.mk ?_;unfold aN;rw[d];clear d;go_simp;exact p.out _ _ (A7.ag (W:=W) f 5 (aP #[aA key,(aB xa xn xc)]) (Ao 5 r rfl) (fun _ _ _ h=>h) rfl ⟨b,k,c0,l,g⟩)
 case o6 =>
  rintro w L _ W u s ⟨v,rfl,f,b,k,c0,l,g⟩ K p;have ac:(Ai a [44,45,46,47,48,49,50] v).eval (.tmp 44)=_:=(Aj 0 r rfl (by omega)).trans (f 0 (s 0 (by simp)));have ad:(Ai a [44,45,46,47,48,49,50] v).eval (.tmp 49)=_:=(Aj 5 r rfl (by omega)).trans (f 5 (s 5 (by simp)));have ae:=N W g;have d : execOp (Ai a [44, 45, 46, 47, 48, 49, 50] v).eval LP = execOp (aL ⟨#[undef], []⟩) ⟨aD 0, .call { callee := .value (.func 86), args := #[.const (aP #[aA kind, aA name, (aB ba bn bc)]), .const (aP #[aA key, (aB xa xn xc)])], argTypes := #[46, 115] }, 0, "", #[], aC⟩ := by simp only[execOp, Ac, LP, resolve, BQ, aW, aT, aZ, ac, ad]
  refine Br.mk ?_;unfold aN;rw[d];clear d;go_simp;refine ae.mono ?_;rintro e W' ⟨q,m,t,rfl,D,b'⟩;refine p.out _ _ (A7.ag (W:=W) f 6 (aP #[aA kind,aA name,aB q m t]) (Ao 6 r rfl) (fun j y F h=>?_) ⟨q,m,t,rfl,W,g,D,b'⟩ ⟨(b'.block X (aF.1 b).1).trans b,(b'.cell (aE _ _ k)).trans k,(b'.cell (aE _ _ c0)).trans c0,(b'.cell (aE _ _ l)).trans l,g.trans (b'.mono g.size)⟩);have af:j≠6:=fun e=>by rw[e,u]at F;cases F
  unfold OvF at *;split <;> simp only at h
  all_goals first | exact h | exact absurd rfl af | trivial
 case o7 =>
  rintro w L _ W u s ⟨v,rfl,f,b,k,c0,l,g⟩ K p;obtain⟨q,m,t,ag,W1,ah,D,ai⟩:=f 6 (s 6 (by simp));have aj:(Ai a [44,45,46,47,48,49,50] v).eval (.tmp 50)=_:=(Aj 6 r rfl (by omega)).trans ag;have C:=(A1 (v:=v) (show 5 ∉ ([44,45,46,47,48,49,50]:List Nat) by decide)).trans E;have z:=Ab b 0;have A:=Ab b 1;have B:=Ab b 2;simp only[aJ,aG,aK]at z A B;have am:=Ad b 0;have an:=Ad b 1;have ao:=Ad b 2;have ak:=Aa (T v _ q m t W1 W rfl ah D ai);have d : execOp (Ai a [44, 45, 46, 47, 48, 49, 50] v).eval LQ = execOp (aL ⟨#[undef], []⟩) ⟨aD 0, .store 46 (.const (aI (aD ⟨X, 0, aC⟩))) (.const (aP #[aA kind, aA name, aB q m t])), 0, "", #[], aC⟩ := by simp only[execOp, Ac, LQ, C, aj]
  refine Br.mk ?_;unfold aN;rw[d];clear d;go_simp;exact p.out _ _ (aU ak.out)
def OvG(U i b0 off n c:Nat)(kind name key:ByteArray)(ov:Value)(b:Bool)(j:Nat)(x:Value):Prop:=match j with
 | 0=>x=aP #[aA kind,aA name,ov]
 | 1=>x=aI (aD ⟨U,2,aC⟩)
 | 2=>x=aB (aD ⟨b0,off,aC⟩) n c
 | 3=>x=.int .i64 (i:Int)
 | 4=>x=aI (aD ⟨b0,off+i*2,aC⟩)
 | 5=>x=aI (aD ⟨b0,off+i*2,aC⟩)
 | 6=>x=aA key
 | 7=>∃a m d,x=aB a m d/\((m:Int)==0)=b
 | 8=>∃m:Nat,x=.int .i64 (m:Int)/\((m:Int)==0)=b
 | 9=>x=.bool b
 | _=>True
theorem Ty{on u:Nat}{key:ByteArray}{w:Option Addr}{y:Bool}(B:W0.heap[O]?=aD (aH #[aA kind,aA name,(aB w on u)] 46 (0,0)))(C:W0.cell? ⟨U,2,aC⟩=aD (aB (aD ⟨b0,off,aC⟩) n c))(D:W0.cell? ⟨b0,off+i*2,aC⟩=aD (aA key))(E:i<n)(F:∀W,Below W0.heap.size W0 W->Calls prog 89 #[aP #[aA kind,aA name,(aB w on u)],aA key] W fun e w'=>Nt y W e w')
  (G:a.eval (.tmp 3)=aI (aD ⟨O,0,aC⟩)) (H:a.eval (.tmp 2)=aI (aD ⟨U,0,aC⟩)) (I:a.eval (.tmp 7)=.int .i64 (i:Int)) (ak:a.tmps.size=52)
  (J:∀v a' W',a'=Ai a [34,35,36,37,38,39,40,41,42,43] v->v 9=.bool y->Below W0.heap.size W0 W'->Q .normal a' W'):(bE 9 Afy.toArray true).wp prog Q a W0:=by
 have l:([34,35,36,37,38,39,40,41,42,43]:List Nat).Nodup:=by decide
 have i3:(0:Int)<=(i:Int):=by omega
 have i4:(i:Int)<(n:Int):=by omega
 refine DK [34,35,36,37,38,39,40,41,42,43] (fun j x _=>OvG U i b0 off n c kind name key (aB w on u) y j x) (fun _ W=>W.heap[O]?=aD (aH #[aA kind,aA name,(aB w on u)] 46 (0,0))/\W.cell? ⟨U,2,aC⟩=aD (aB (aD ⟨b0,off,aC⟩) n c)/\W.cell? ⟨b0,off+i*2,aC⟩=aD (aA key)/\Below W0.heap.size W0 W) 10 [0,1,2,3,4,5,6,7,8,9] (by kernel_rfl) rfl (by decide) (by kernel_rfl) ?h1 ⟨B,C,D,(aO _ _).drew⟩ ?hall ?hend;case h1 =>
  intro i x W E;unfold OvG;split <;> first | omega | trivial
 case hend =>
  intro v W' L al b M;exact aU (J v _ W' rfl (b 9) M.2.2.2)
 refine Ag.ad (o:=Qz) [] (by kernel_rfl) (by decide) (by kernel_rfl) rfl ?o0 (Ag.ad (o:=Q0) [] (by kernel_rfl) (by decide) (by kernel_rfl) rfl ?o1 (Ag.ad (o:=Q1) [1] (by kernel_rfl) (by decide) (by kernel_rfl) rfl ?o2 (Ag.ad (o:=Q2) [] (by kernel_rfl) (by decide) (by kernel_rfl) rfl ?o3 (Ag.ad (o:=Q3) [2,3] (by kernel_rfl) (by decide) (by kernel_rfl) rfl ?o4 (Ag.ad (o:=Q4) [4] (by kernel_rfl) (by decide) (by kernel_rfl) rfl ?o5 (Ag.ad (o:=Q5) [5] (by kernel_rfl) (by decide) (by kernel_rfl) rfl ?o6 (Ag.ad (o:=Q6) [0,6] (by kernel_rfl) (by decide) (by kernel_rfl) rfl ?o7 (Ag.ad (o:=Vv) [7] (by kernel_rfl) (by decide) (by kernel_rfl) rfl ?o8 (Ag.ad (o:=Vw) [8] (by kernel_rfl) (by decide) (by kernel_rfl) rfl ?o9 Ag.nil)))))))));case o0 =>
  rintro s L _ W t r ⟨v,rfl,b,d,k,c0,g⟩ K p;have N:=Ab d 0;have P:=Ab d 1;have R:=Ab d 2;simp only[aJ,aG,aK]at N P R;have S:=(A1 (v:=v) (show 3 ∉ ([34,35,36,37,38,39,40,41,42,43]:List Nat) by decide)).trans G;have f : execOp (Ai a [34, 35, 36, 37, 38, 39, 40, 41, 42, 43] v).eval Qz = execOp (aL ⟨#[undef], []⟩) ⟨aD 0, .load 46 (.const (aI (aD ⟨O, 0, aC⟩))), 0, "", #[], aC⟩ := by simp only[execOp, Ac, Qz, S]
  refine Br.mk ?_;unfold aN;rw[f];clear f;go_simp;exact p.out _ _ (A7.next (W:=W) b 0 (aP #[aA kind,aA name,(aB w on u)]) (Ao 0 l rfl) (fun _ _ h=>h) rfl ⟨d,k,c0,g⟩)
 case o1 =>
  rintro s L _ W t r ⟨v,rfl,b,d,k,c0,g⟩ K p;have T:=(A1 (v:=v) (show 2 ∉ ([34,35,36,37,38,39,40,41,42,43]:List Nat) by decide)).trans H;have f : execOp (Ai a [34, 35, 36, 37, 38, 39, 40, 41, 42, 43] v).eval Q0 = execOp (aL ⟨#[undef], []⟩) ⟨aD 0, .fieldAddr 46 (.const (aI (aD ⟨U, 0, aC⟩))) 2, 0, "", #[], aC⟩ := by simp only[execOp, Ac, Q0, T]
  refine Br.mk ?_;unfold aN;rw[f];clear f;go_simp;exact p.out _ _ (A7.next (W:=W) b 1 (aI (aD ⟨U,2,aC⟩)) (Ao 1 l rfl) (fun _ _ h=>h) rfl ⟨d,k,c0,g⟩)
 case o2 =>
  rintro s L _ W t r ⟨v,rfl,b,d,k,c0,g⟩ K p;have V:(Ai a [34,35,36,37,38,39,40,41,42,43] v).eval (.tmp 35)=_:=(Aj 1 l rfl (by omega)).trans (b 1 (r 1 (by simp)));have f : execOp (Ai a [34, 35, 36, 37, 38, 39, 40, 41, 42, 43] v).eval Q1 = execOp (aL ⟨#[undef], []⟩) ⟨aD 0, .load 44 (.const (aI (aD ⟨U, 2, aC⟩))), 0, "", #[], aC⟩ := by simp only[execOp, Ac, Q1, V]
  refine Br.mk ?_;unfold aN;rw[f];clear f;go_simp;exact p.out _ _ (A7.next (W:=W) b 2 (aB (aD ⟨b0,off,aC⟩) n c) (Ao 2 l rfl) (fun _ _ h=>h) rfl ⟨d,k,c0,g⟩)
 case o3 =>
  rintro s L _ W t r ⟨v,rfl,b,d,k,c0,g⟩ K p;have X:=(A1 (v:=v) (show 7 ∉ ([34,35,36,37,38,39,40,41,42,43]:List Nat) by decide)).trans I;have f : execOp (Ai a [34, 35, 36, 37, 38, 39, 40, 41, 42, 43] v).eval Q2 = execOp (aL ⟨#[undef], []⟩) ⟨aD 0, .move (.const (.int .i64 (i : Int))), 0, "", #[], aC⟩ := by simp only[execOp, Ac, Q2, X]
  refine Br.mk ?_;unfold aN;rw[f];clear f;go_simp;exact p.out _ _ (A7.next (W:=W) b 3 (.int .i64 (i:Int)) (Ao 3 l rfl) (fun _ _ h=>h) rfl ⟨d,k,c0,g⟩)
 case o4 =>
  rintro s L _ W t r ⟨v,rfl,b,d,k,c0,g⟩ K p;have Y:(Ai a [34,35,36,37,38,39,40,41,42,43] v).eval (.tmp 36)=_:=(Aj 2 l rfl (by omega)).trans (b 2 (r 2 (by simp)));have Z:(Ai a [34,35,36,37,38,39,40,41,42,43] v).eval (.tmp 37)=_:=(Aj 3 l rfl (by omega)).trans (b 3 (r 3 (by simp)));have f : execOp (Ai a [34, 35, 36, 37, 38, 39, 40, 41, 42, 43] v).eval Q3 = execOp (aL ⟨#[undef], []⟩) ⟨aD 0, .indexAddr 44 (.const (aB (aD ⟨b0, off, aC⟩) n c)) (.const (.int .i64 (i : Int))), 0, "", #[], aC⟩ := by simp only[execOp, Ac, Q3, Y, Z]
  refine Br.mk ?_;unfold aN;rw[f];clear f;go_simp;exact p.out _ _ (A7.next (W:=W) b 4 (aI (aD ⟨b0,off+i*2,aC⟩)) (Ao 4 l rfl) (fun _ _ h=>h) rfl ⟨d,k,c0,g⟩)
 case o5 =>
  rintro s L _ W t r ⟨v,rfl,b,d,k,c0,g⟩ K p;have aa:(Ai a [34,35,36,37,38,39,40,41,42,43] v).eval (.tmp 38)=_:=(Aj 4 l rfl (by omega)).trans (b 4 (r 4 (by simp)));have f : execOp (Ai a [34, 35, 36, 37, 38, 39, 40, 41, 42, 43] v).eval Q4 = execOp (aL ⟨#[undef], []⟩) ⟨aD 0, .fieldAddr 115 (.const (aI (aD ⟨b0, off + i*2, aC⟩))) 0, 0, "", #[], aC⟩ := by simp only[execOp, Ac, Q4, aa]
  refine Br.mk ?_;unfold aN;rw[f];clear f;go_simp;exact p.out _ _ (A7.next (W:=W) b 5 (aI (aD ⟨b0,off+i*2,aC⟩)) (Ao 5 l rfl) (fun _ _ h=>h) rfl ⟨d,k,c0,g⟩)
 case o6 =>
  rintro s L _ W t r ⟨v,rfl,b,d,k,c0,g⟩ K p;have ab:(Ai a [34,35,36,37,38,39,40,41,42,43] v).eval (.tmp 39)=_:=(Aj 5 l rfl (by omega)).trans (b 5 (r 5 (by simp)));have f : execOp (Ai a [34, 35, 36, 37, 38, 39, 40, 41, 42, 43] v).eval Q5 = execOp (aL ⟨#[undef], []⟩) ⟨aD 0, .load 9 (.const (aI (aD ⟨b0, off + i*2, aC⟩))), 0, "", #[], aC⟩ := by simp only[execOp, Ac, Q5, ab]
  refine Br.mk ?_;unfold aN;rw[f];clear f;go_simp;exact p.out _ _ (A7.next (W:=W) b 6 (aA key) (Ao 6 l rfl) (fun _ _ h=>h) rfl ⟨d,k,c0,g⟩)
 case o7 =>
  rintro s L _ W t r ⟨v,rfl,b,d,k,c0,g⟩ K p;have ac:(Ai a [34,35,36,37,38,39,40,41,42,43] v).eval (.tmp 34)=_:=(Aj 0 l rfl (by omega)).trans (b 0 (r 0 (by simp)));have ad:(Ai a [34,35,36,37,38,39,40,41,42,43] v).eval (.tmp 40)=_:=(Aj 6 l rfl (by omega)).trans (b 6 (r 6 (by simp)));have ae:=F W g;have f : execOp (Ai a [34, 35, 36, 37, 38, 39, 40, 41, 42, 43] v).eval Q6 = execOp (aL ⟨#[undef], []⟩) ⟨aD 0, .call { callee := .value (.func 89), args := #[.const (aP #[aA kind, aA name, (aB w on u)]), .const (aA key)], argTypes := #[46, 9] }, 0, "", #[], aC⟩ := by simp only[execOp, Ac, Q6, resolve, BQ, aW, aT, aZ, ac, ad]
  refine Br.mk ?_;unfold aN;rw[f];clear f;go_simp;refine ae.mono ?_;rintro e W' ⟨q,m,z,rfl,af,b'⟩;exact p.out _ _ (A7.next (W:=W) b 7 (aB q m z) (Ao 7 l rfl) (fun _ _ h=>h) ⟨q,m,z,rfl,af⟩ ⟨(b'.block O (aF.1 d).1).trans d,(b'.cell (aE _ _ k)).trans k,(b'.cell (aE _ _ c0)).trans c0,g.trans (b'.mono g.size)⟩)
 case o8 =>
  rintro s L _ W t r ⟨v,rfl,b,d,k,c0,g⟩ K p;obtain⟨q,m,z,ag,A⟩:=b 7 (r 7 (by simp));have ah:(Ai a [34,35,36,37,38,39,40,41,42,43] v).eval (.tmp 41)=_:=(Aj 7 l rfl (by omega)).trans ag;refine Br.mk ?_;unfold aN;simp only[execOp,Vv,resolve,aW,aT,aZ,ah];go_simp;exact p.out _ _ (A7.next (W:=W) b 8 (.int .i64 (m:Int)) (Ao 8 l rfl) (fun _ _ h=>h) ⟨m,rfl,A⟩ ⟨d,k,c0,g⟩)
 case o9 =>
  rintro s L _ W t r ⟨v,rfl,b,d,k,c0,g⟩ K p;obtain⟨m,ai,A⟩:=b 8 (r 8 (by simp));have aj:(Ai a [34,35,36,37,38,39,40,41,42,43] v).eval (.tmp 42)=_:=(Aj 8 l rfl (by omega)).trans ai;refine Br.mk ?_;unfold aN;simp only[execOp,Vw,Ac,aj];go_simp;exact p.out _ _ (A7.next (W:=W) b 9 (.bool y) (Ao 9 l rfl) (fun _ _ h=>h) rfl ⟨d,k,c0,g⟩)
def Cf(key:ByteArray)(x:LAt):Bool:=!(x.key.toList==key.toList)
def Lc(b:BAt)(key:ByteArray)(w:World)(e:Ending)(w':World):Prop:=∃a n c,e=aR (aP #[aA b.aa,aA b.name,aB a n c])/\w'.ownsRow w.heap.size 115 2 (aB a n c) (b.ls.filter (Cf key)).length ((b.ls.filter (Cf key)).flatMap LAt.cells)/\Below w.heap.size w w'
theorem OD{b:BAt}(key:ByteArray)(s:AH w b)(t:Ah b.ls):Calls prog 107 #[aP #[aA b.aa,aA b.name,b.v],aA key] w fun e w'=>Lc b key w e w':=by
 obtain⟨bk,bn,bv,ls⟩:=b;unfold Lc;unfold AH at s;simp only at *;obtain⟨ao,f,rfl⟩:=s.1.ae;have bc:=t.1;generalize aa:ls.length=d at *;have ab:=Aa aa;clear aa;obtain⟨i0,ar,au,av,aw⟩:=info_parts CK;have I:Below w.heap.size w ((w.alloc (aH #[aA bk,aA bn,aB ao d f] 46)).alloc (aH #[aA ⟨#[]⟩,aA ⟨#[]⟩,aB aC 0 0] 46)):=((aO w.heap.size w).alloc (aM _) _).alloc (by simp) _;have J:((w.alloc (aH #[aA bk,aA bn,aB ao d f] 46)).alloc (aH #[aA ⟨#[]⟩,aA ⟨#[]⟩,aB aC 0 0] 46)).heap.size=w.heap.size+2:=by simp
 have K:((w.alloc (aH #[aA bk,aA bn,aB ao d f] 46)).alloc (aH #[aA ⟨#[]⟩,aA ⟨#[]⟩,aB aC 0 0] 46)).heap[w.heap.size]?=aD (aH #[aA bk,aA bn,aB ao d f] 46 (0,0)):=by
  have ax:=(aO (w.alloc (aH #[aA bk,aA bn,aB ao d f] 46)).heap.size (w.alloc (aH #[aA bk,aA bn,aB ao d f] 46))).alloc (aM _) (aH #[aA ⟨#[]⟩,aA ⟨#[]⟩,aB aC 0 0] 46);rw[ax.block w.heap.size (by simp)];exact Al w _
 have ac:((w.alloc (aH #[aA bk,aA bn,aB ao d f] 46)).alloc (aH #[aA ⟨#[]⟩,aA ⟨#[]⟩,aB aC 0 0] 46)).heap[w.heap.size+1]?=aD (aH #[aA ⟨#[]⟩,aA ⟨#[]⟩,aB aC 0 0] 46 (0,0)):=by
  have:=Al (w.alloc (aH #[aA bk,aA bn,aB ao d f] 46)) (aH #[aA ⟨#[]⟩,aA ⟨#[]⟩,aB aC 0 0] 46);rw[bB]at this;exact this
 generalize ad:((w.alloc (aH #[aA bk,aA bn,aB ao d f] 46)).alloc (aH #[aA ⟨#[]⟩,aA ⟨#[]⟩,aB aC 0 0] 46))=w2 at *;have ae:=Ab K 2;simp only[aJ,aG,aK]at ae;have z:=s.V I;have L:=bA (base:=w.heap.size+2) (e:=115) (size:=2) w2 #[] 0 (by omega) (by decide) rfl;rw[J]at L;have af:=(aO (w.heap.size+2) w2).alloc (by omega) (aH #[] 115);have ay:=Aa ad;clear s ad;go_enter func107,ntmps107;go_wp2;rw[ay.out];go_loopw [5,6] (fun u i wr=>∃(j:Nat) (done:List LAt),j<=d/\i=.int .i64 (j:Int)/\done=(ls.take j).filter (Cf key)/\wr.ownsRow (w.heap.size+2) 115 2 u done.length (done.flatMap LAt.cells)/\Below (w.heap.size+2) w2 wr) (fun _ i _=>d-(intOf i).toNat)
 case atStart=>exact⟨0,[],by omega,rfl,by simp,by simpa using L,af⟩
 case round =>
  obtain⟨j,done,bd,rfl,l,m,h⟩:=hrel;obtain⟨a,c,rfl,_⟩:=Ak m;have be:done.length<=j:=by rw[l];exact cA (bP _ _) (by simp;omega)
  have bf:=(h.cell (p:=⟨w.heap.size,2,aC⟩) (by simp)).trans ae;have M:=(h.block w.heap.size (by omega)).trans K;have ag:=(h.block (w.heap.size+1) (by omega)).trans ac;have N:=h.size;rw[J]at N;by_cases bg:j<d
  ·obtain⟨D,x,T,o,A⟩:=AS ls j (by have:=ab.out;omega);have B:=z.V (by rw[J];exact h);have O:x∈ls:=by rw[o];simp
   have C:=B;rw[o]at C;obtain⟨g,off,rfl,az,c2⟩:=C.1.line;obtain⟨E,F,q⟩:=Ap.ae (B.2 x O);have G:=Aa (show (ls.take (j+1)).filter (Cf key)=done++[x].filter (Cf key) from by rw[l,o,<-A,Bk,BG,bK]);rw[q]at c2;rw[A]at az c2;have bh:(0:Int)<=(j:Int):=by omega
   have bi:(j:Int)<(d:Int):=by omega
   have P:=Aa (show (LAt.cells x)=[aA x.key,aB E x.ws.length F] from by unfold LAt.cells;rw[q]);have Q:=Aa m;have ah:=Aa (show ∀k,(bI a done.length c).ownBlock=aD k->w.heap.size+2<=k from fun k a0=>(m.lt k a0).1);cases ai:(x.key.toList==key.toList)
   rotate_left 1
   ·have R:=Aa (show (ls.take (j+1)).filter (Cf key)=done from by rw[G.out];simp[Cf,ai]);clear B C l m o q A O G P z t;generalize x.key=xk at *;generalize x.ws.length=bj at *;go_wp2;go_roundw;case rel=>exact⟨j+1,done,by omega,by go_num,R.out.symm,Q.out,h⟩
    case measure=>simp[intOf];omega
   ·have R:=Aa (show (ls.take (j+1)).filter (Cf key)=done++[x] from by rw[G.out];simp[Cf,ai]);have S:=Cy (ls:=[x]) (fun y a1=>by rw[bJ.1 a1];exact⟨_,_,_,q⟩);rw[bG,P.out]at S;clear B C l m o q A O G z t;have aj:=Q.out.alloc (aH #[aA x.key,aB E x.ws.length F] 115);have a2:=h.alloc N (aH #[aA x.key,aB E x.ws.length F] 115);have ak:=Bz wr #[aA x.key,aB E x.ws.length F] 115 2 rfl;go_wp2_with (at_builtin;refine A8 (by rfl) _ _ 44 (by rfl) (w.heap.size+2) 115 i0 _ 2 40 underlying44 ar au av aw rfl (by decide) _ done.length _ (by rfl) aj _ 1 _ (by rfl) ak S ?c3 ?c4 (cA N (by simp)) ?_)
    case c3=>unfold maxLen;omega
    case c4=>omega
    intro a3 a4 a5 al am _;have a6:=a2.grown am (by simp;omega) ah.out;have H:=Aa (show a5.ownsRow (w.heap.size+2) 115 2 (aB a3 (done.length+1) a4) (done++[x]).length ((done++[x]).flatMap LAt.cells) from by
     rw[aV,bG,P.out,bT];exact al)
    clear aj ak S al am ah Q;go_wp2;go_roundw;case rel=>exact⟨j+1,done++[x],by omega,by go_num,R.out.symm,H.out,a6⟩
    case measure=>simp[intOf];omega
  ·obtain rfl:j=d:=by omega
   have an:ls.take j=ls:=by rw[<-ab.out,bV]
   rw[an]at l;have r:=AT wr w.heap.size 2 (aB a done.length c);have U:(wr.setCell ⟨w.heap.size,2,aC⟩ (aB a done.length c)).heap[w.heap.size]?=aD (aH #[aA bk,aA bn,aB a done.length c] 46 (0,0)):=by rw[heap_setCell_same wr w.heap.size 2 _ _ _ M];rfl
   have ap:=(r.block (w.heap.size+1) (by omega) (by intro e;have:=aQ e;omega)).trans ag;have bl:=Ad M 2;have a7:=Ab U 0;have a8:=Ab U 1;have a9:=Ab U 2;simp only[aJ,aG,aK]at a7 a8 a9;have V:=Ba (wr.setCell ⟨w.heap.size,2,aC⟩ (aB a done.length c)) (w.heap.size+1) #[aA bk,aA bn,aB a done.length c];have H:=Aa (show ((wr.setCell ⟨w.heap.size,2,aC⟩ (aB a done.length c)).setRow (w.heap.size+1) #[aA bk,aA bn,aB a done.length c]).ownsRow w.heap.size 115 2 (aB a done.length c) (ls.filter (Cf key)).length ((ls.filter (Cf key)).flatMap LAt.cells) from by
    rw[<-l];exact Cu (Gq (Gq m r (by omega)) V (by omega)) (by omega))
   have aq:=Aa (Bh (Bh (I.trans (h.mono (by omega))) (by omega) (aM _) r) (by have:=r.size;omega) (by omega) V);clear z t m l an M ag K ac I af L r V;generalize done.length=n at *;go_wp2_with (with_reducible show wpList _ _ _ (bU _ (bS _ (bL 4) _) _ _ _ _::_) _ _;refine wpList_store_row rfl 46 _ _ rfl (w.heap.size+1) #[aA bk,aA bn,aB a n c] ?_ ?_ 46 _ ap ?_ ?_ ?_ ?_)
   all_goals (first | rfl | kernel_rfl | exact⟨rfl,rfl,rfl⟩ | (obtain⟨i9,ba,_,bb,_⟩:=info_parts Bg;exact⟨i9,ba,bb⟩) | skip)
   have z5:=setRow_heap _ _ _ #[aA bk,aA bn,aB a n c] _ _ ap;have X:=Ab z5 0;have Y:=Ab z5 1;have Z:=Ab z5 2;simp only[aJ,aG,aK]at X Y Z;generalize (wr.setCell ⟨w.heap.size,2,aC⟩ (aB a n c)).setRow (w.heap.size+1) #[aA bk,aA bn,aB a n c]=W at H aq X Y Z z5⊢;exact bodyPost_ret (v:=aP #[aA bk,aA bn,aB a n c]) (by simp[results,results107,go_sem,X,Y,Z]) rfl ⟨a,n,c,rfl,H.out,aq.out⟩
variable {W' W1 W2:World}{ls':List LAt}
structure L6S(w:World)(U O X:Nat)(u o:BAt)(ls:List LAt)(v:Value)(W:World):Prop where
 bw:Below w.heap.size w W
 ub:W.heap[U]?=aD (aH #[aA u.aa,aA u.name,u.v] 46 (0,0))
 ob:W.heap[O]?=aD (aH #[aA o.aa,aA o.name,o.v] 46 (0,0))
 xb:W.heap[X]?=aD (aH #[aA o.aa,aA o.name,v] 46 (0,0))
 rb:W.heap[w.heap.size+2]?=aD (aH #[aA ⟨#[]⟩,aA ⟨#[]⟩,aB aC 0 0] 46 (0,0))
 uin:AH W u
 oin:AH W o
 lin:An W v ls
 mem:∀y∈ls,y∈o.ls\/y∈u.ls
 far:∀q,q<=X->Ay q u.v u.ls->Ay q o.v o.ls->Ay q v ls
 ufar:∀q,w.heap.size<=q->Ay q u.v u.ls
 ofar:∀q,w.heap.size<=q->Ay q o.v o.ls
theorem L6S.V{u o:BAt}(h:L6S w U O X u o ls v W)(a:Below W.heap.size W W'):L6S w U O X u o ls v W' :=
 ⟨h.bw.trans (a.mono h.bw.size),(a.block U (aF.1 h.ub).1).trans h.ub,(a.block O (aF.1 h.ob).1).trans h.ob,(a.block X (aF.1 h.xb).1).trans h.xb,(a.block _ (aF.1 h.rb).1).trans h.rb,h.uin.V a,h.oin.V a,h.lin.V a,h.mem,h.far,h.ufar,h.ofar⟩
theorem L6S.put{u o:BAt}{x:LAt}(h:L6S w U O X u o ls v W)(t:U=w.heap.size)(z:O=w.heap.size+1)(A:X=w.heap.size+3)(j:Below W.heap.size W W1)(k:Below W1.heap.size W1 W2)(l:An W2 v' ls')(m:∀y∈ls',y=x\/y∈ls)(c:x∈o.ls\/x∈u.ls)(n:∀q,q<W1.heap.size->Ay q v ls->Cc q x.v x.ws.length->Ay q v' ls'):
  L6S w U O X u o ls' v' (((W2.setCell ⟨X,0,aC⟩ (aA o.aa)).setCell ⟨X,1,aC⟩ (aA o.name)).setCell ⟨X,2,aC⟩ v'):=by
 have h1:=h.V j;have a:=h1.V k;obtain⟨p,b⟩:=N4 (k':=o.aa) (n':=o.name) (v':=v') a.xb;have B:X<W1.heap.size:=(aF.1 h1.xb).1;have C:=a.bw.size;have r:∀q,Ay q u.v u.ls->Ay q o.v o.ls->Cc q x.v x.ws.length:=fun q d f=>by
  rcases c with c | c
  ·exact f.2 x c
  ·exact d.2 x c
 have i:∀q,q<=X->Ay q u.v u.ls->Ay q o.v o.ls->Ay q v' ls':=fun q s d f=>n q (by omega) (h.far q s d f) (r q d f)
 refine⟨Bh a.bw a.bw.size (by omega) b,(b.block U (aF.1 a.ub).1 (by intro e;have:=aQ e;omega)).trans a.ub,(b.block O (aF.1 a.ob).1 (by intro e;have:=aQ e;omega)).trans a.ob,p,(b.block _ (aF.1 a.rb).1 (by intro e;have:=aQ e;omega)).trans a.rb,An.far a.uin (h.ufar X (by omega)) b,An.far a.oin (h.ofar X (by omega)) b,l.far (i X (aM _) (h.ufar X (by omega)) (h.ofar X (by omega))) b,fun y g=>?_,i,h.ufar,h.ofar⟩;rcases m y g with rfl | g
 ·exact c
 ·exact h.mem y g
def Aaq(u o:BAt)(w:World)(e:Ending)(w':World):Prop:=∃a n c ls,e=aR (aP #[aA o.aa,aA o.name,aB a n c])/\(ls.map LAt.I=DA (rulesOf o.aa) (u.ls.map LAt.I) (o.ls.map LAt.I)/\(∀y∈ls,y∈o.ls\/y∈u.ls)/\An w' (aB a n c) ls/\∀q,q<w.heap.size->Ay q u.v u.ls->Ay q o.v o.ls->Ay q (aB a n c) ls)/\Below w.heap.size w w'
def Af0(w:World)(u o:BAt)(i:Value)(W:World):Prop:=∃(j:Nat) (v:Value) (ls:List LAt),i=.int .i64 (j:Int)/\j<=o.ls.length/\ls.length=j/\ls.map LAt.I=BS (rulesOf o.aa) ((o.ls.map LAt.I).take j)/\L6S w w.heap.size (w.heap.size+1) (w.heap.size+3) u o ls v W
def Af1(w:World)(u o:BAt)(i:Value)(W:World):Prop:=∃(j:Nat) (v:Value) (ls:List LAt),i=.int .i64 (j:Int)/\j<=u.ls.length/\ls.length<=o.ls.length+j/\ls.map LAt.I=BS (rulesOf o.aa) (o.ls.map LAt.I++EC ((u.ls.map LAt.I).take j) (o.ls.map LAt.I))/\L6S w w.heap.size (w.heap.size+1) (w.heap.size+3) u o ls v W
theorem Ik{o u:BAt}(a:Ah o.ls)(b:Ah u.ls)(c:∀y∈ls,y∈o.ls\/y∈u.ls)(d:ls.length<=1048576):Ah ls:=⟨d,fun x e=>by
 rcases c x e with h | h
 ·exact a.2 x h
 ·exact b.2 x h⟩
theorem DJ(f:α->β){L D T:List α}{x:α}(e:L=D++x::T):(L.map f).take (D.length+1)=(L.map f).take D.length++[f x]:=by
 subst e;have a:(D.map f).length=D.length:=by simp
 rw[bM,aT,<-a,List.take_append_of_le_length (aM _),bV,List.take_append,bF (by omega)];simp
theorem Yq{us os:List PLine}{a:PLine}:EC (us++[a]) os=EC us os++(if (!hasK os a.key)=true then [a] else []):=by
 unfold EC;rw[bK];congr 1;simp[bW]
def Aar(R:List Plain)(ls:List LAt)(v:Value)(x:LAt)(W1:World)(v':Value)(W2:World):Prop:=∃ls':List LAt,ls'.map LAt.I=Cb (lineLt R) x.I (ls.map LAt.I)/\ls'.length=ls.length+1/\(∀y∈ls',y=x\/y∈ls)/\An W2 v' ls'/\∀q,q<W1.heap.size->Ay q v ls->Cc q x.v x.ws.length->Ay q v' ls'
theorem P1{x:LAt}(f:An W v ls)(g:Ah ls)(i:BL W x)(j:x.ws.length<=1048576):Calls prog 86 #[aP #[aA kind,aA name,v],aP #[aA x.key,x.v]] W fun e w'=>∃q m d,e=aR (aP #[aA kind,aA name,aB q m d])/\Aar (rulesOf kind) ls v x W (aB q m d) w'/\Below W.heap.size W w':=by
 refine(IG (b:=⟨kind,name,v,ls⟩) (x:=x) f g i j).mono ?_;rintro e w' ⟨a,n,c,ls',rfl,h,b⟩;exact⟨a,n,c,rfl,⟨ls',h⟩,b⟩
theorem L6S.out{u o:BAt}{a:Option Addr}(h:L6S w w.heap.size (w.heap.size+1) (w.heap.size+3) u o ls (aB a n c) W)(d:ls.map LAt.I=DA (rulesOf o.aa) (u.ls.map LAt.I) (o.ls.map LAt.I))(cs:Array Value):Aaq u o w (aR (aP #[aA o.aa,aA o.name,aB a n c])) (W.setRow (w.heap.size+2) cs):=by
 have b:=Ba W (w.heap.size+2) cs;exact⟨a,n,c,ls,rfl,⟨d,h.mem,h.lin.far (h.far _ (by omega) (h.ufar _ (by omega)) (h.ofar _ (by omega))) b,fun q g e f=>h.far q (by omega) e f⟩,Bh h.bw h.bw.size (by omega) b⟩
theorem Lj{u o:BAt}(X:AH w u)(Y:AH w o)(an:Ah u.ls)(ao:Ah o.ls)(bo:o.ls.length+u.ls.length<=1000000):Calls prog 53 #[aP #[aA u.aa,aA u.name,u.v],aP #[aA o.aa,aA o.name,o.v]] w fun e w'=>Aaq u o w e w':=by
 obtain⟨F,G,a6⟩:=X.1.ae;obtain⟨y,z,a7⟩:=Y.1.ae;obtain⟨uk,un,uv,f⟩:=u;obtain⟨ok,on,ov,d⟩:=o;simp only at a6 a7 an ao bo;subst a6 a7;have a3:=Ho (w:=w) (o1:=aH #[aA uk,aA un,aB F f.length G] 46) (o2:=aH #[aA ok,aA on,aB y d.length z] 46) (o3:=aH #[aA ⟨#[]⟩,aA ⟨#[]⟩,aB aC 0 0] 46);have ap:Below w.heap.size w (((w.alloc (aH #[aA uk,aA un,aB F f.length G] 46)).alloc (aH #[aA ok,aA on,aB y d.length z] 46)).alloc (aH #[aA ⟨#[]⟩,aA ⟨#[]⟩,aB aC 0 0] 46)):=(((aO _ _).alloc (aM _) _).alloc (by simp) _).alloc (by simp;omega) _;have bp:=Ab a3.2.2.1 0;have bq:=Ab a3.2.2.1 1;simp only[aJ,aG,aK]at bp bq;obtain⟨br,a8,a9,bb⟩:=a3;have bd:L6S w w.heap.size (w.heap.size+1) (w.heap.size+3) ⟨uk,un,aB F f.length G,f⟩ ⟨ok,on,aB y d.length z,d⟩ [] (aB aC 0 0) ((((w.alloc (aH #[aA uk,aA un,aB F f.length G] 46)).alloc (aH #[aA ok,aA on,aB y d.length z] 46)).alloc (aH #[aA ⟨#[]⟩,aA ⟨#[]⟩,aB aC 0 0] 46)).alloc (aH #[aA ok,aA on,aB aC 0 0] 46)):=by
  generalize cc:((w.alloc (aH #[aA uk,aA un,aB F f.length G] 46)).alloc (aH #[aA ok,aA on,aB y d.length z] 46)).alloc (aH #[aA ⟨#[]⟩,aA ⟨#[]⟩,aB aC 0 0] 46)=W3 at *;have aj:=(aO W3.heap.size W3).alloc (aM _) (aH #[aA ok,aA on,aB aC 0 0] 46);have z4:=Al W3 (aH #[aA ok,aA on,aB aC 0 0] 46);rw[br]at z4;have aq:=ap.trans (aj.mono ap.size);exact⟨aq,(aj.block _ (by omega)).trans a8,(aj.block _ (by omega)).trans a9,z4,(aj.block _ (by omega)).trans bb,AH.V X (aq.mono (aM _)),AH.V Y (aq.mono (aM _)),⟨⟨rfl,aC,0,rfl,⟨aM _,bQ _⟩,.inl rfl⟩,by simp⟩,by simp,fun q _ _ _=>⟨.inl rfl,by simp⟩,fun q ar=>An.fresh X ar,fun q ar=>An.fresh Y ar⟩
 have be:=Aa bd;have au:=Aa an;have ak:=Aa ao;have cd:=Aa X;have av:=Aa Y;clear bd X Y an ao a8 a9 bb ap;generalize bf:f.length=M at *;generalize bg:d.length=Z at *;have N:=Aa bf;have H:=Aa bg;clear bf bg;go_enter func53,ntmps53;go_wp2;go_loopw [6] (fun i wr=>Af0 w ⟨uk,un,aB F M G,f⟩ ⟨ok,on,aB y Z z,d⟩ i wr) (fun i _=>Z-(intOf i).toNat)
 case atStart=>exact⟨0,aB aC 0 0,[],rfl,bQ _,rfl,by simp[BS],be.out⟩
 case round =>
  obtain⟨j,v,ls,rfl,bs,bt,O,a⟩:=hrel;simp only[H.out]at bs;simp only at O;clear be;have aw:=Ab a.ob 2;simp only[aJ,aG,aK]at aw;obtain⟨ba,bc,rfl⟩:=a.lin.1.ae;by_cases ce:j<Z
  ·have bu:(j:Int)<(Z:Int):=by omega
   obtain⟨D,⟨xk,xv,c⟩,T,P,aa⟩:=AS d j (by have:=H.out;omega);have p:=a.oin.1;simp only at p;rw[P]at p;obtain⟨b0,off,rfl,c0,A⟩:=p.line;rw[aa]at c0 A;have C:=a.oin.2 ⟨xk,xv,c⟩ (by rw[P];simp);obtain⟨xa,xc,ab⟩:=C.ae;simp only at ab;subst ab;have Q:=(ak.out.2 ⟨xk,aB xa c.length xc,c⟩ (by rw[P];simp)).1;have ax:(⟨xk,aB xa c.length xc,c⟩:LAt)∈d:=by rw[P];simp
   have ac:∀W,Below wr.heap.size wr W->Calls prog 86 #[aP #[aA ok,aA on,aB ba ls.length bc],aP #[aA xk,aB xa c.length xc]] W fun e w'=>∃q m B,e=aR (aP #[aA ok,aA on,aB q m B])/\Aar (rulesOf ok) ls (aB ba ls.length bc) ⟨xk,aB xa c.length xc,c⟩ W (aB q m B) w'/\Below W.heap.size W w':=fun W g=>P1 (x:=⟨xk,aB xa c.length xc,c⟩) (a.lin.V g) (Ik ak.out au.out a.mem (by have:=H.out;omega)) (BL.V C g) Q
   have bv:=Aa (show BS (rulesOf ok) ((d.map LAt.I).take (j+1))=Cb (lineLt (rulesOf ok)) (LAt.I ⟨xk,aB xa c.length xc,c⟩) (ls.map LAt.I) from by rw[O,<-aa,DJ LAt.I P,Hl]);have h:=Aa a;have ay:=a.xb;have cf:=Aa bt;simp only at ay;clear a p C Q O P;generalize bw:ls.length=nl at *;generalize az:c.length=nw at *;go_upto_region 5 with fail
   refine Aaf (Aar (rulesOf ok) ls (aB ba nl bc) ⟨xk,aB xa nw xc,c⟩) ay aw c0 A (by omega) ac (by kernel_rfl) (by kernel_rfl) (by kernel_rfl) (by kernel_rfl) ?_;rintro v2 a' q m B W1 W2 l ad ⟨ls',h1,bx,ae,af,ag⟩ E;simp only[Ai,CL,aS,aX,aY]at l;subst l;have bz:=Aa (h.out.put rfl rfl rfl ad E af ae (.inl ax) ag);have R:=Aa (h1.trans bv.out.symm);clear ac h h1 ae af ag ad E c0 A aw ay;go_wp2;go_roundw;case rel=>exact⟨j+1,aB q m B,ls',by go_num,by simp only;have:=H.out;omega,by omega,R.out,bz.out⟩
   case measure=>simp[intOf];omega
  ·obtain rfl:j=Z:=by omega
   have bu:¬((j:Int)<(j:Int)):=by omega
   have ah:(d.map LAt.I).take j=d.map LAt.I:=bF (by rw[bN,H.out];exact aM _);rw[ah]at O;have h:=Aa a;have R:=Aa O;clear a O ah;generalize bw:ls.length=nl at *;go_wp2;go_loopw [7] (fun i wr=>Af1 w ⟨uk,un,aB F M G,f⟩ ⟨ok,on,aB y j z,d⟩ i wr) (fun i _=>M-(intOf i).toNat)
   case atStart=>exact⟨0,aB ba nl bc,ls,rfl,bQ _,by simp only;have:=H.out;omega,by simpa [EC] using R.out,h.out⟩
   case round =>
    obtain⟨k,v2,r,rfl,b1,b2,I,a⟩:=hrel;simp only[N.out]at b1;simp only at I b2;clear h R;have J:=Ab a.ub 2;simp only[aJ,aG,aK]at J;obtain⟨s,t,rfl⟩:=a.lin.1.ae;by_cases cg:k<M
    ·have b3:(k:Int)<(M:Int):=by omega
     obtain⟨D,⟨xk,xv,c⟩,T,K,aa⟩:=AS f k (by have:=N.out;omega);have p:=a.uin.1;simp only at p;rw[K]at p;obtain⟨b0,off,rfl,c0,A⟩:=p.line;rw[aa]at c0 A;have C:=a.uin.2 ⟨xk,xv,c⟩ (by rw[K];simp);obtain⟨xa,xc,ab⟩:=C.ae;simp only at ab;subst ab;have Q:=(au.out.2 ⟨xk,aB xa c.length xc,c⟩ (by rw[K];simp)).1;have ax:(⟨xk,aB xa c.length xc,c⟩:LAt)∈f:=by rw[K];simp
     have S:∀W,Below wr.heap.size wr W->Calls prog 89 #[aP #[aA ok,aA on,aB y j z],aA xk] W fun e w'=>Nt (!hasK (d.map LAt.I) xk) W e w':=fun W g=>XV xk (b:=⟨ok,on,aB y j z,d⟩) (AH.V a.oin g) ak.out
     have al:=Aa (show EC ((f.map LAt.I).take (k+1)) (d.map LAt.I)=EC ((f.map LAt.I).take k) (d.map LAt.I)++(if (!hasK (d.map LAt.I) xk)=true then [LAt.I ⟨xk,aB xa c.length xc,c⟩] else []) from by rw[<-aa,DJ LAt.I K,Yq];rfl);have am:=Aa I;have ai:=a.ob;simp only at ai;cases U:(!hasK (d.map LAt.I) xk)
     ·rw[U]at S;have a0:=Aa (show r.map LAt.I=BS (rulesOf ok) (d.map LAt.I++EC ((f.map LAt.I).take (k+1)) (d.map LAt.I)) from by rw[al.out,U,am.out];simp);have h:=Aa a;clear a p C Q I K al am U;generalize bh:r.length=n at *;generalize az:c.length=nw at *;go_upto_region 9 with fail
      refine Ty ai J c0 (by omega) S (by kernel_rfl) (by kernel_rfl) (by kernel_rfl) (by kernel_rfl) ?_;intro v3 a' W' l L g;simp only[Ai,CL,aS,aX,aY,L]at l;subst l;have V:=Aa (h.out.V g);clear S h g c0 A J ai L;go_wp2;go_roundw;case rel=>exact⟨k+1,aB s n t,r,by go_num,by simp only;have:=N.out;omega,by simp only;omega,a0.out,V.out⟩
      case measure=>simp[intOf];omega
     ·rw[U]at S;have a0:=Aa (show BS (rulesOf ok) (d.map LAt.I++EC ((f.map LAt.I).take (k+1)) (d.map LAt.I))=Cb (lineLt (rulesOf ok)) (LAt.I ⟨xk,aB xa c.length xc,c⟩) (r.map LAt.I) from by rw[al.out,U,am.out,if_pos rfl,<-List.append_assoc,Hl]);have bi:Ah r:=Ik ak.out au.out a.mem (by have:=H.out;have:=N.out;omega);have h:=Aa a;have b4:=Aa C;have b5:=Aa Q;have b6:=Aa bi;clear a p C Q I K al am U bi;generalize bh:r.length=n at *;generalize az:c.length=nw at *;go_upto_region 9 with fail
      refine Ty ai J c0 (by omega) S (by kernel_rfl) (by kernel_rfl) (by kernel_rfl) (by kernel_rfl) ?_;intro v3 a' W' l L g;simp only[Ai,CL,aS,aX,aY,L]at l;subst l;have V:=h.out.V g;have a1:=V.xb;simp only at a1;have bj:=(g.cell (aE _ _ J)).trans J;have bk:=(g.cell (aE _ _ c0)).trans c0;have bl:=(g.cell (aE _ _ A)).trans A;have ac:∀W,Below W'.heap.size W' W->Calls prog 86 #[aP #[aA ok,aA on,aB s n t],aP #[aA xk,aB xa nw xc]] W fun e w'=>∃q m B,e=aR (aP #[aA ok,aA on,aB q m B])/\Aar (rulesOf ok) r (aB s n t) ⟨xk,aB xa nw xc,c⟩ W (aB q m B) w'/\Below W.heap.size W w':=fun W E=>P1 (x:=⟨xk,aB xa nw xc,c⟩) (V.lin.V E) b6.out (BL.V (BL.V b4.out g) E) (by simp only;rw[az];exact b5.out)
      have bm:=Aa V;clear S h c0 A J ai L V;go_upto_region 10 with fail
      refine Yf (Aar (rulesOf ok) r (aB s n t) ⟨xk,aB xa nw xc,c⟩) a1 bj bk bl (by omega) ac (by kernel_rfl) (by kernel_rfl) (by kernel_rfl) (by kernel_rfl) ?_;rintro v4 a' q m B W1 W2 l ad ⟨ls',h1,bx,ae,af,ag⟩ E;simp only[Ai,CL,aS,aX,aY]at l;subst l;have b7:=Aa (bm.out.put rfl rfl rfl ad E af ae (.inr ax) ag);have R:=Aa (h1.trans a0.out.symm);clear ac bm h1 ae af ag ad E bk bl bj a1;go_wp2;go_roundw;case rel=>exact⟨k+1,aB q m B,ls',by go_num,by simp only;have:=N.out;omega,by simp only;omega,R.out,b7.out⟩
      case measure=>simp[intOf];omega
    ·obtain rfl:k=M:=by omega
     have b3:¬((k:Int)<(k:Int)):=by omega
     have ah:(f.map LAt.I).take k=f.map LAt.I:=bF (by rw[bN,N.out];exact aM _);rw[ah]at I;have av:=Aa (a.out I #[aA ok,aA on,aB s r.length t]);have b8:=Ab a.xb 0;have b9:=Ab a.xb 1;have ca:=Ab a.xb 2;simp only[aJ,aG,aK]at b8 b9 ca;have bn:=a.rb;clear a I ah;generalize bh:r.length=n at *;go_wp2_with (with_reducible show wpList _ _ _ (bU _ (bS _ (bL 4) _) _ _ _ _::_) _ _;refine wpList_store_row rfl 46 _ _ rfl (w.heap.size+2) #[aA ok,aA on,aB s n t] ?_ ?_ 46 _ bn ?_ ?_ ?_ ?_)
     all_goals (first | rfl | kernel_rfl | exact⟨rfl,rfl,rfl⟩ | (obtain⟨i9,L,_,cb,_⟩:=info_parts Bg;exact⟨i9,L,cb⟩) | skip)
     have z5:(wr.setRow (w.heap.size+2) #[aA ok,aA on,aB s n t]).heap[w.heap.size+2]?=aD (aH #[aA ok,aA on,aB s n t] 46 (0,0)):=setRow_heap _ _ _ _ _ _ bn;have a2:=Ab z5 0;have a4:=Ab z5 1;have a5:=Ab z5 2;simp only[aJ,aG,aK]at a2 a4 a5;generalize wr.setRow (w.heap.size+2) #[aA ok,aA on,aB s n t]=W at av a2 a4 a5 z5⊢;exact bodyPost_ret (v:=aP #[aA ok,aA on,aB s n t]) (by simp[results,results53,go_sem,a2,a4,a5]) rfl av.out
variable {uk un bk:ByteArray}
def LV: Oper := ⟨aD 40, .fieldAddr 25 (.tmp 2) 0, 0, "l6_over.go:29", #[], aC⟩
def LW: Oper := ⟨aD 41, .load 23 (.tmp 40), 23, "l6_over.go:29", #[⟨0, .data⟩], aC⟩
def LX: Oper := ⟨aD 42, .move (.tmp 8), 3, "l6_over.go:29", #[], aC⟩
def LY: Oper := ⟨aD 43, .indexAddr 23 (.tmp 41) (.tmp 42), 0, "l6_over.go:29", #[⟨1, .data⟩, ⟨2, .data⟩], aC⟩
def LZ: Oper := ⟨aD 44, .load 46 (.tmp 43), 46, "l6_over.go:29", #[⟨3, .data⟩], aC⟩
def Ma: Oper := ⟨aD 45, .load 46 (.tmp 7), 46, "l6_over.go:29", #[], aC⟩
def Mb: Oper := ⟨aD 46, .call { callee := .value (.func 53), args := #[.tmp 44, .tmp 45], argTypes := #[46, 46] }, 46, "l6_over.go:29", #[⟨4, .data⟩, ⟨5, .data⟩], aC⟩
def Mc: Oper := ⟨aC, .store 46 (.tmp 7) (.tmp 46), 0, "l6_over.go:29", #[⟨6, .data⟩, ⟨6, .chain⟩, ⟨0, .phase⟩, ⟨1, .phase⟩, ⟨2, .phase⟩, ⟨3, .phase⟩, ⟨4, .phase⟩, ⟨5, .phase⟩, ⟨6, .phase⟩], aC⟩
def Ae3:List Oper:=[LV,LW,LX,LY,LZ,Ma,Mb,Mc]
def Md: Oper := ⟨aD 57, .load 25 (.tmp 3), 25, "l6_over.go:34", #[], aC⟩
def Me: Oper := ⟨aD 58, .fieldAddr 25 (.tmp 2) 0, 0, "l6_over.go:34", #[], aC⟩
def Mf: Oper := ⟨aD 59, .load 23 (.tmp 58), 23, "l6_over.go:34", #[⟨1, .data⟩], aC⟩
def Mg: Oper := ⟨aD 60, .move (.tmp 9), 3, "l6_over.go:34", #[], aC⟩
def Mh: Oper := ⟨aD 61, .indexAddr 23 (.tmp 59) (.tmp 60), 0, "l6_over.go:34", #[⟨2, .data⟩, ⟨3, .data⟩], aC⟩
def Mi: Oper := ⟨aD 62, .fieldAddr 46 (.tmp 61) 0, 0, "l6_over.go:34", #[⟨4, .data⟩], aC⟩
def Mj: Oper := ⟨aD 63, .load 9 (.tmp 62), 9, "l6_over.go:34", #[⟨5, .data⟩], aC⟩
def Ml: Oper := ⟨aD 64, .fieldAddr 25 (.tmp 2) 0, 0, "l6_over.go:34", #[], aC⟩
def Mm: Oper := ⟨aD 65, .load 23 (.tmp 64), 23, "l6_over.go:34", #[⟨7, .data⟩], aC⟩
def Mn: Oper := ⟨aD 66, .move (.tmp 9), 3, "l6_over.go:34", #[], aC⟩
def JS: Oper := ⟨aD 67, .indexAddr 23 (.tmp 65) (.tmp 66), 0, "l6_over.go:34", #[⟨8, .data⟩, ⟨9, .data⟩], aC⟩
def JT: Oper := ⟨aD 68, .fieldAddr 46 (.tmp 67) 1, 0, "l6_over.go:34", #[⟨10, .data⟩], aC⟩
def JU: Oper := ⟨aD 69, .load 9 (.tmp 68), 9, "l6_over.go:34", #[⟨11, .data⟩], aC⟩
def JV: Oper := ⟨aD 70, .call { callee := .value (.func 52), args := #[.tmp 57, .tmp 63, .tmp 69], argTypes := #[25, 9, 9] }, 3, "l6_over.go:34", #[⟨0, .data⟩, ⟨6, .data⟩, ⟨12, .data⟩], aC⟩
def NG: Oper := ⟨aD 71, .binOp .lss 3 (.tmp 70) (.const (.int .i64 0)) 3, 4, "l6_over.go:34", #[⟨13, .data⟩], aC⟩
def Ae4:List Oper:=[Md,Me,Mf,Mg,Mh,Mi,Mj,Ml,Mm,Mn,JS,JT,JU,JV,NG]
def Mo: Oper := ⟨aD 72, .load 25 (.tmp 5), 25, "l6_over.go:35", #[], aC⟩
def Mp: Oper := ⟨aD 73, .fieldAddr 25 (.tmp 2) 0, 0, "l6_over.go:35", #[], aC⟩
def Mq: Oper := ⟨aD 74, .load 23 (.tmp 73), 23, "l6_over.go:35", #[⟨1, .data⟩], aC⟩
def Mr: Oper := ⟨aD 75, .move (.tmp 9), 3, "l6_over.go:35", #[], aC⟩
def Ms: Oper := ⟨aD 76, .indexAddr 23 (.tmp 74) (.tmp 75), 0, "l6_over.go:35", #[⟨2, .data⟩, ⟨3, .data⟩], aC⟩
def Mt: Oper := ⟨aD 77, .load 46 (.tmp 76), 46, "l6_over.go:35", #[⟨4, .data⟩], aC⟩
def Mu: Oper := ⟨aD 78, .call { callee := .value (.func 54), args := #[.tmp 72, .tmp 77], argTypes := #[25, 46] }, 25, "l6_over.go:35", #[⟨0, .data⟩, ⟨5, .data⟩], aC⟩
def Mv: Oper := ⟨aC, .store 25 (.tmp 5) (.tmp 78), 0, "l6_over.go:35", #[⟨6, .data⟩, ⟨6, .chain⟩, ⟨0, .phase⟩, ⟨1, .phase⟩, ⟨2, .phase⟩, ⟨3, .phase⟩, ⟨4, .phase⟩, ⟨5, .phase⟩, ⟨6, .phase⟩], aC⟩
def Ae5:List Oper:=[Mo,Mp,Mq,Mr,Ms,Mt,Mu,Mv]
def OwF(U i b0 off n c:Nat)(uk un bk b:ByteArray)(uv bv:Value)(J:Value->World->Prop)(j:Nat)(x:Value)(W:World):Prop:=match j with
 | 0=>x=aI (aD ⟨U,0,aC⟩)
 | 1=>x=aB (aD ⟨b0,off,aC⟩) n c
 | 2=>x=.int .i64 (i:Int)
 | 3=>x=aI (aD ⟨b0,off+i*3,aC⟩)
 | 4=>x=aP #[aA uk,aA un,uv]
 | 5=>x=aP #[aA bk,aA b,bv]
 | 6=>∃a m d,x=aP #[aA bk,aA b,aB a m d]/\J (aB a m d) W
 | _=>True
theorem Yy{R bn A B:Nat}{u:ByteArray}{C:Option Addr}(P:World->Value->World->Prop)(M:W0.heap[R]?=aD (aH #[aA bk,aA u,(aB ba bn bc)] 46 (0,0)))(N:W0.cell? ⟨U,0,aC⟩=aD (aB (aD ⟨b0,off,aC⟩) n c))(O:W0.cell? ⟨b0,off+i*3,aC⟩=aD (aA uk))(S:W0.cell? ⟨b0,off+i*3+1,aC⟩=aD (aA un))(T:W0.cell? ⟨b0,off+i*3+2,aC⟩=aD (aB C A B))(V:i<n)(X:∀W,Below W0.heap.size W0 W->Calls prog 53 #[aP #[aA uk,aA un,(aB C A B)],aP #[aA bk,aA u,(aB ba bn bc)]] W fun e w'=>∃q m t,e=aR (aP #[aA bk,aA u,aB q m t])/\P W (aB q m t) w'/\Below W.heap.size W w')
  (I:a.eval (.tmp 7)=aI (aD ⟨R,0,aC⟩)) (Y:a.eval (.tmp 2)=aI (aD ⟨U,0,aC⟩)) (Z:a.eval (.tmp 8)=.int .i64 (i:Int)) (aq:a.tmps.size=85)
  (aa:∀v a' q m t W1 W2,a'=Ai a [40,41,42,43,44,45,46] v->Below W0.heap.size W0 W1->P W1 (aB q m t) W2->Below W1.heap.size W1 W2->Q .normal a' (((W2.setCell ⟨R,0,aC⟩ (aA bk)).setCell ⟨R,1,aC⟩ (aA u)).setCell ⟨R,2,aC⟩ (aB q m t))):(bE 10 Ae3.toArray true).wp prog Q a W0:=by
 have r:([40,41,42,43,44,45,46]:List Nat).Nodup:=by decide
 have i3:(0:Int)<=(i:Int):=by omega
 have i4:(i:Int)<(n:Int):=by omega
 refine Be [40,41,42,43,44,45,46] (OwF U i b0 off n c uk un bk u (aB C A B) (aB ba bn bc) (fun v W=>∃W1,Below W0.heap.size W0 W1/\P W1 v W/\Below W1.heap.size W1 W)) (fun _ W=>W.heap[R]?=aD (aH #[aA bk,aA u,(aB ba bn bc)] 46 (0,0))/\W.cell? ⟨U,0,aC⟩=aD (aB (aD ⟨b0,off,aC⟩) n c)/\W.cell? ⟨b0,off+i*3,aC⟩=aD (aA uk)/\W.cell? ⟨b0,off+i*3+1,aC⟩=aD (aA un)/\W.cell? ⟨b0,off+i*3+2,aC⟩=aD (aB C A B)/\Below W0.heap.size W0 W) 7 8 [0,1,2,3,4,5,6,7] (by kernel_rfl) rfl (by decide) (by kernel_rfl) ?h1 ⟨M,N,O,S,T,(aO _ _).drew⟩ ?hall;case h1 =>
  intro i x W V;unfold OwF;split <;> first | omega | trivial
 refine Ag.ad (o:=LV) [] (by kernel_rfl) (by decide) (by kernel_rfl) rfl ?o0 (Ag.ad (o:=LW) [0] (by kernel_rfl) (by decide) (by kernel_rfl) rfl ?o1 (Ag.ad (o:=LX) [] (by kernel_rfl) (by decide) (by kernel_rfl) rfl ?o2 (Ag.ad (o:=LY) [1,2] (by kernel_rfl) (by decide) (by kernel_rfl) rfl ?o3 (Ag.ad (o:=LZ) [3] (by kernel_rfl) (by decide) (by kernel_rfl) rfl ?o4 (Ag.ad (o:=Ma) [] (by kernel_rfl) (by decide) (by kernel_rfl) rfl ?o5 (Ag.ad (o:=Mb) [4,5] (by kernel_rfl) (by decide) (by kernel_rfl) rfl ?o6 (Ag.lastQ (o:=Mc) [6,6,0,1,2,3,4,5,6] (by kernel_rfl) (by kernel_rfl) rfl ?o7)))))));case o0 =>
  rintro z L _ W w s ⟨v,rfl,f,b,k,c0,l,c2,g⟩ K p;have ab:=(A1 (v:=v) (show 2 ∉ ([40,41,42,43,44,45,46]:List Nat) by decide)).trans Y;have d : execOp (Ai a [40, 41, 42, 43, 44, 45, 46] v).eval LV = execOp (aL ⟨#[undef], []⟩) ⟨aD 0, .fieldAddr 25 (.const (aI (aD ⟨U, 0, aC⟩))) 0, 0, "", #[], aC⟩ := by simp only[execOp, Ac, LV, ab]
  refine Br.mk ?_;unfold aN;rw[d];clear d;go_simp;exact p.out _ _ (A7.ag (W:=W) f 0 (aI (aD ⟨U,0,aC⟩)) (Ao 0 r rfl) (fun _ _ _ h=>h) rfl ⟨b,k,c0,l,c2,g⟩)
 case o1 =>
  rintro z L _ W w s ⟨v,rfl,f,b,k,c0,l,c2,g⟩ K p;have ac:(Ai a [40,41,42,43,44,45,46] v).eval (.tmp 40)=_:=(Aj 0 r rfl (by omega)).trans (f 0 (s 0 (by simp)));have d : execOp (Ai a [40, 41, 42, 43, 44, 45, 46] v).eval LW = execOp (aL ⟨#[undef], []⟩) ⟨aD 0, .load 23 (.const (aI (aD ⟨U, 0, aC⟩))), 0, "", #[], aC⟩ := by simp only[execOp, Ac, LW, ac]
  refine Br.mk ?_;unfold aN;rw[d];clear d;go_simp;exact p.out _ _ (A7.ag (W:=W) f 1 (aB (aD ⟨b0,off,aC⟩) n c) (Ao 1 r rfl) (fun _ _ _ h=>h) rfl ⟨b,k,c0,l,c2,g⟩)
 case o2 =>
  rintro z L _ W w s ⟨v,rfl,f,b,k,c0,l,c2,g⟩ K p;have ad:=(A1 (v:=v) (show 8 ∉ ([40,41,42,43,44,45,46]:List Nat) by decide)).trans Z;have d : execOp (Ai a [40, 41, 42, 43, 44, 45, 46] v).eval LX = execOp (aL ⟨#[undef], []⟩) ⟨aD 0, .move (.const (.int .i64 (i : Int))), 0, "", #[], aC⟩ := by simp only[execOp, Ac, LX, ad]
  refine Br.mk ?_;unfold aN;rw[d];clear d;go_simp;exact p.out _ _ (A7.ag (W:=W) f 2 (.int .i64 (i:Int)) (Ao 2 r rfl) (fun _ _ _ h=>h) rfl ⟨b,k,c0,l,c2,g⟩)
 case o3 =>
  rintro z L _ W w s ⟨v,rfl,f,b,k,c0,l,c2,g⟩ K p;have ae:(Ai a [40,41,42,43,44,45,46] v).eval (.tmp 41)=_:=(Aj 1 r rfl (by omega)).trans (f 1 (s 1 (by simp)));have af:(Ai a [40,41,42,43,44,45,46] v).eval (.tmp 42)=_:=(Aj 2 r rfl (by omega)).trans (f 2 (s 2 (by simp)));have d : execOp (Ai a [40, 41, 42, 43, 44, 45, 46] v).eval LY = execOp (aL ⟨#[undef], []⟩) ⟨aD 0, .indexAddr 23 (.const (aB (aD ⟨b0, off, aC⟩) n c)) (.const (.int .i64 (i : Int))), 0, "", #[], aC⟩ := by simp only[execOp, Ac, LY, ae, af]
  refine Br.mk ?_;unfold aN;rw[d];clear d;go_simp;exact p.out _ _ (A7.ag (W:=W) f 3 (aI (aD ⟨b0,off+i*3,aC⟩)) (Ao 3 r rfl) (fun _ _ _ h=>h) rfl ⟨b,k,c0,l,c2,g⟩)
 case o4 =>
  rintro z L _ W w s ⟨v,rfl,f,b,k,c0,l,c2,g⟩ K p;have ag:(Ai a [40,41,42,43,44,45,46] v).eval (.tmp 43)=_:=(Aj 3 r rfl (by omega)).trans (f 3 (s 3 (by simp)));have d : execOp (Ai a [40, 41, 42, 43, 44, 45, 46] v).eval LZ = execOp (aL ⟨#[undef], []⟩) ⟨aD 0, .load 46 (.const (aI (aD ⟨b0, off + i*3, aC⟩))), 0, "", #[], aC⟩ := by simp only[execOp, Ac, LZ, ag]
  refine Br.mk ?_;unfold aN;rw[d];clear d;go_simp;exact p.out _ _ (A7.ag (W:=W) f 4 (aP #[aA uk,aA un,(aB C A B)]) (Ao 4 r rfl) (fun _ _ _ h=>h) rfl ⟨b,k,c0,l,c2,g⟩)
 case o5 =>
  rintro z L _ W w s ⟨v,rfl,f,b,k,c0,l,c2,g⟩ K p;have D:=Ab b 0;have E:=Ab b 1;have F:=Ab b 2;simp only[aJ,aG,aK]at D E F;have G:=(A1 (v:=v) (show 7 ∉ ([40,41,42,43,44,45,46]:List Nat) by decide)).trans I;have d : execOp (Ai a [40, 41, 42, 43, 44, 45, 46] v).eval Ma = execOp (aL ⟨#[undef], []⟩) ⟨aD 0, .load 46 (.const (aI (aD ⟨R, 0, aC⟩))), 0, "", #[], aC⟩ := by simp only[execOp, Ac, Ma, G]
  refine Br.mk ?_;unfold aN;rw[d];clear d;go_simp;exact p.out _ _ (A7.ag (W:=W) f 5 (aP #[aA bk,aA u,(aB ba bn bc)]) (Ao 5 r rfl) (fun _ _ _ h=>h) rfl ⟨b,k,c0,l,c2,g⟩)
 case o6 =>
  rintro z L _ W w s ⟨v,rfl,f,b,k,c0,l,c2,g⟩ K p;have ah:(Ai a [40,41,42,43,44,45,46] v).eval (.tmp 44)=_:=(Aj 4 r rfl (by omega)).trans (f 4 (s 4 (by simp)));have ai:(Ai a [40,41,42,43,44,45,46] v).eval (.tmp 45)=_:=(Aj 5 r rfl (by omega)).trans (f 5 (s 5 (by simp)));have aj:=X W g;have d : execOp (Ai a [40, 41, 42, 43, 44, 45, 46] v).eval Mb = execOp (aL ⟨#[undef], []⟩) ⟨aD 0, .call { callee := .value (.func 53), args := #[.const (aP #[aA uk, aA un, (aB C A B)]), .const (aP #[aA bk, aA u, (aB ba bn bc)])], argTypes := #[46, 46] }, 0, "", #[], aC⟩ := by simp only[execOp, Ac, Mb, resolve, BQ, aW, aT, aZ, ah, ai]
  refine Br.mk ?_;unfold aN;rw[d];clear d;go_simp;refine aj.mono ?_;rintro e W' ⟨q,m,t,rfl,H,b'⟩;refine p.out _ _ (A7.ag (W:=W) f 6 (aP #[aA bk,aA u,aB q m t]) (Ao 6 r rfl) (fun j y J h=>?_) ⟨q,m,t,rfl,W,g,H,b'⟩ ⟨(b'.block R (aF.1 b).1).trans b,(b'.cell (aE _ _ k)).trans k,(b'.cell (aE _ _ c0)).trans c0,(b'.cell (aE _ _ l)).trans l,(b'.cell (aE _ _ c2)).trans c2,g.trans (b'.mono g.size)⟩);have ak:j≠6:=fun e=>by rw[e,w]at J;cases J
  unfold OwF at *;split <;> simp only at h
  all_goals first | exact h | exact absurd rfl ak | trivial
 case o7 =>
  rintro z L _ W w s ⟨v,rfl,f,b,k,c0,l,c2,g⟩ K p;obtain⟨q,m,t,al,W1,am,H,an⟩:=f 6 (s 6 (by simp));have ao:(Ai a [40,41,42,43,44,45,46] v).eval (.tmp 46)=_:=(Aj 6 r rfl (by omega)).trans al;have G:=(A1 (v:=v) (show 7 ∉ ([40,41,42,43,44,45,46]:List Nat) by decide)).trans I;have D:=Ab b 0;have E:=Ab b 1;have F:=Ab b 2;simp only[aJ,aG,aK]at D E F;have ar:=Ad b 0;have au:=Ad b 1;have av:=Ad b 2;have ap:=Aa (aa v _ q m t W1 W rfl am H an);have d : execOp (Ai a [40, 41, 42, 43, 44, 45, 46] v).eval Mc = execOp (aL ⟨#[undef], []⟩) ⟨aD 0, .store 46 (.const (aI (aD ⟨R, 0, aC⟩))) (.const (aP #[aA bk, aA u, aB q m t])), 0, "", #[], aC⟩ := by simp only[execOp, Ac, Mc, G, ao]
  refine Br.mk ?_;unfold aN;rw[d];clear d;go_simp;exact p.out _ _ (aU ap.out)
def OxF(_X U i b0 off n c:Nat)(uk un:ByteArray)(uv xv:Value)(J:Value->World->Prop)(j:Nat)(x:Value)(W:World):Prop:=match j with
 | 0=>x=aP #[xv]
 | 1=>x=aI (aD ⟨U,0,aC⟩)
 | 2=>x=aB (aD ⟨b0,off,aC⟩) n c
 | 3=>x=.int .i64 (i:Int)
 | 4=>x=aI (aD ⟨b0,off+i*3,aC⟩)
 | 5=>x=aP #[aA uk,aA un,uv]
 | 6=>∃a m b,x=aP #[aB a m b]/\J (aB a m b) W
 | _=>True
theorem Yz{z A:Nat}{B:Option Addr}(P:World->Value->World->Prop)(H:W0.heap[X]?=aD (aH #[(aB xa xn xc)] 25 (0,0)))(I:W0.cell? ⟨U,0,aC⟩=aD (aB (aD ⟨b0,off,aC⟩) n c))(J:W0.cell? ⟨b0,off+i*3,aC⟩=aD (aA uk))(M:W0.cell? ⟨b0,off+i*3+1,aC⟩=aD (aA un))(N:W0.cell? ⟨b0,off+i*3+2,aC⟩=aD (aB B z A))(O:i<n)(R:∀W,Below W0.heap.size W0 W->Calls prog 54 #[aP #[(aB xa xn xc)],aP #[aA uk,aA un,(aB B z A)]] W fun e w'=>∃q m t,e=aR (aP #[aB q m t])/\P W (aB q m t) w'/\Below W.heap.size W w')
  (F:a.eval (.tmp 5)=aI (aD ⟨X,0,aC⟩)) (S:a.eval (.tmp 2)=aI (aD ⟨U,0,aC⟩)) (T:a.eval (.tmp 9)=.int .i64 (i:Int)) (an:a.tmps.size=85)
  (V:∀v a' q m t W1 W2,a'=Ai a [72,73,74,75,76,77,78] v->Below W0.heap.size W0 W1->P W1 (aB q m t) W2->Below W1.heap.size W1 W2->Q .normal a' (W2.setCell ⟨X,0,aC⟩ (aB q m t))):(bE 16 Ae5.toArray true).wp prog Q a W0:=by
 have r:([72,73,74,75,76,77,78]:List Nat).Nodup:=by decide
 have i3:(0:Int)<=(i:Int):=by omega
 have i4:(i:Int)<(n:Int):=by omega
 refine Be [72,73,74,75,76,77,78] (OxF X U i b0 off n c uk un (aB B z A) (aB xa xn xc) (fun v W=>∃W1,Below W0.heap.size W0 W1/\P W1 v W/\Below W1.heap.size W1 W)) (fun _ W=>W.heap[X]?=aD (aH #[(aB xa xn xc)] 25 (0,0))/\W.cell? ⟨U,0,aC⟩=aD (aB (aD ⟨b0,off,aC⟩) n c)/\W.cell? ⟨b0,off+i*3,aC⟩=aD (aA uk)/\W.cell? ⟨b0,off+i*3+1,aC⟩=aD (aA un)/\W.cell? ⟨b0,off+i*3+2,aC⟩=aD (aB B z A)/\Below W0.heap.size W0 W) 7 8 [0,1,2,3,4,5,6,7] (by kernel_rfl) rfl (by decide) (by kernel_rfl) ?h1 ⟨H,I,J,M,N,(aO _ _).drew⟩ ?hall;case h1 =>
  intro i x W O;unfold OxF;split <;> first | omega | trivial
 refine Ag.ad (o:=Mo) [] (by kernel_rfl) (by decide) (by kernel_rfl) rfl ?o0 (Ag.ad (o:=Mp) [] (by kernel_rfl) (by decide) (by kernel_rfl) rfl ?o1 (Ag.ad (o:=Mq) [1] (by kernel_rfl) (by decide) (by kernel_rfl) rfl ?o2 (Ag.ad (o:=Mr) [] (by kernel_rfl) (by decide) (by kernel_rfl) rfl ?o3 (Ag.ad (o:=Ms) [2,3] (by kernel_rfl) (by decide) (by kernel_rfl) rfl ?o4 (Ag.ad (o:=Mt) [4] (by kernel_rfl) (by decide) (by kernel_rfl) rfl ?o5 (Ag.ad (o:=Mu) [0,5] (by kernel_rfl) (by decide) (by kernel_rfl) rfl ?o6 (Ag.lastQ (o:=Mv) [6,6,0,1,2,3,4,5,6] (by kernel_rfl) (by kernel_rfl) rfl ?o7)))))));case o0 =>
  rintro w L _ W u s ⟨v,rfl,d,f,k,c0,l,c2,g⟩ K p;have C:=Ab f 0;simp only[aJ,aG]at C;have D:=(A1 (v:=v) (show 5 ∉ ([72,73,74,75,76,77,78]:List Nat) by decide)).trans F;have b : execOp (Ai a [72, 73, 74, 75, 76, 77, 78] v).eval Mo = execOp (aL ⟨#[undef], []⟩) ⟨aD 0, .load 25 (.const (aI (aD ⟨X, 0, aC⟩))), 0, "", #[], aC⟩ := by simp only[execOp, Ac, Mo, D]
  refine Br.mk ?_;unfold aN;rw[b];clear b;go_simp;exact p.out _ _ (A7.ag (W:=W) d 0 (aP #[(aB xa xn xc)]) (Ao 0 r rfl) (fun _ _ _ h=>h) rfl ⟨f,k,c0,l,c2,g⟩)
 case o1 =>
  rintro w L _ W u s ⟨v,rfl,d,f,k,c0,l,c2,g⟩ K p;have Y:=(A1 (v:=v) (show 2 ∉ ([72,73,74,75,76,77,78]:List Nat) by decide)).trans S;have b : execOp (Ai a [72, 73, 74, 75, 76, 77, 78] v).eval Mp = execOp (aL ⟨#[undef], []⟩) ⟨aD 0, .fieldAddr 25 (.const (aI (aD ⟨U, 0, aC⟩))) 0, 0, "", #[], aC⟩ := by simp only[execOp, Ac, Mp, Y]
  refine Br.mk ?_;unfold aN;rw[b];clear b;go_simp;exact p.out _ _ (A7.ag (W:=W) d 1 (aI (aD ⟨U,0,aC⟩)) (Ao 1 r rfl) (fun _ _ _ h=>h) rfl ⟨f,k,c0,l,c2,g⟩)
 case o2 =>
  rintro w L _ W u s ⟨v,rfl,d,f,k,c0,l,c2,g⟩ K p;have Z:(Ai a [72,73,74,75,76,77,78] v).eval (.tmp 73)=_:=(Aj 1 r rfl (by omega)).trans (d 1 (s 1 (by simp)));have b : execOp (Ai a [72, 73, 74, 75, 76, 77, 78] v).eval Mq = execOp (aL ⟨#[undef], []⟩) ⟨aD 0, .load 23 (.const (aI (aD ⟨U, 0, aC⟩))), 0, "", #[], aC⟩ := by simp only[execOp, Ac, Mq, Z]
  refine Br.mk ?_;unfold aN;rw[b];clear b;go_simp;exact p.out _ _ (A7.ag (W:=W) d 2 (aB (aD ⟨b0,off,aC⟩) n c) (Ao 2 r rfl) (fun _ _ _ h=>h) rfl ⟨f,k,c0,l,c2,g⟩)
 case o3 =>
  rintro w L _ W u s ⟨v,rfl,d,f,k,c0,l,c2,g⟩ K p;have aa:=(A1 (v:=v) (show 9 ∉ ([72,73,74,75,76,77,78]:List Nat) by decide)).trans T;have b : execOp (Ai a [72, 73, 74, 75, 76, 77, 78] v).eval Mr = execOp (aL ⟨#[undef], []⟩) ⟨aD 0, .move (.const (.int .i64 (i : Int))), 0, "", #[], aC⟩ := by simp only[execOp, Ac, Mr, aa]
  refine Br.mk ?_;unfold aN;rw[b];clear b;go_simp;exact p.out _ _ (A7.ag (W:=W) d 3 (.int .i64 (i:Int)) (Ao 3 r rfl) (fun _ _ _ h=>h) rfl ⟨f,k,c0,l,c2,g⟩)
 case o4 =>
  rintro w L _ W u s ⟨v,rfl,d,f,k,c0,l,c2,g⟩ K p;have ab:(Ai a [72,73,74,75,76,77,78] v).eval (.tmp 74)=_:=(Aj 2 r rfl (by omega)).trans (d 2 (s 2 (by simp)));have ac:(Ai a [72,73,74,75,76,77,78] v).eval (.tmp 75)=_:=(Aj 3 r rfl (by omega)).trans (d 3 (s 3 (by simp)));have b : execOp (Ai a [72, 73, 74, 75, 76, 77, 78] v).eval Ms = execOp (aL ⟨#[undef], []⟩) ⟨aD 0, .indexAddr 23 (.const (aB (aD ⟨b0, off, aC⟩) n c)) (.const (.int .i64 (i : Int))), 0, "", #[], aC⟩ := by simp only[execOp, Ac, Ms, ab, ac]
  refine Br.mk ?_;unfold aN;rw[b];clear b;go_simp;exact p.out _ _ (A7.ag (W:=W) d 4 (aI (aD ⟨b0,off+i*3,aC⟩)) (Ao 4 r rfl) (fun _ _ _ h=>h) rfl ⟨f,k,c0,l,c2,g⟩)
 case o5 =>
  rintro w L _ W u s ⟨v,rfl,d,f,k,c0,l,c2,g⟩ K p;have ad:(Ai a [72,73,74,75,76,77,78] v).eval (.tmp 76)=_:=(Aj 4 r rfl (by omega)).trans (d 4 (s 4 (by simp)));have b : execOp (Ai a [72, 73, 74, 75, 76, 77, 78] v).eval Mt = execOp (aL ⟨#[undef], []⟩) ⟨aD 0, .load 46 (.const (aI (aD ⟨b0, off + i*3, aC⟩))), 0, "", #[], aC⟩ := by simp only[execOp, Ac, Mt, ad]
  refine Br.mk ?_;unfold aN;rw[b];clear b;go_simp;exact p.out _ _ (A7.ag (W:=W) d 5 (aP #[aA uk,aA un,(aB B z A)]) (Ao 5 r rfl) (fun _ _ _ h=>h) rfl ⟨f,k,c0,l,c2,g⟩)
 case o6 =>
  rintro w L _ W u s ⟨v,rfl,d,f,k,c0,l,c2,g⟩ K p;have ae:(Ai a [72,73,74,75,76,77,78] v).eval (.tmp 72)=_:=(Aj 0 r rfl (by omega)).trans (d 0 (s 0 (by simp)));have af:(Ai a [72,73,74,75,76,77,78] v).eval (.tmp 77)=_:=(Aj 5 r rfl (by omega)).trans (d 5 (s 5 (by simp)));have ag:=R W g;have b : execOp (Ai a [72, 73, 74, 75, 76, 77, 78] v).eval Mu = execOp (aL ⟨#[undef], []⟩) ⟨aD 0, .call { callee := .value (.func 54), args := #[.const (aP #[(aB xa xn xc)]), .const (aP #[aA uk, aA un, (aB B z A)])], argTypes := #[25, 46] }, 0, "", #[], aC⟩ := by simp only[execOp, Ac, Mu, resolve, BQ, aW, aT, aZ, ae, af]
  refine Br.mk ?_;unfold aN;rw[b];clear b;go_simp;refine ag.mono ?_;rintro e W' ⟨q,m,t,rfl,E,b'⟩;refine p.out _ _ (A7.ag (W:=W) d 6 (aP #[aB q m t]) (Ao 6 r rfl) (fun j y G h=>?_) ⟨q,m,t,rfl,W,g,E,b'⟩ ⟨(b'.block X (aF.1 f).1).trans f,(b'.cell (aE _ _ k)).trans k,(b'.cell (aE _ _ c0)).trans c0,(b'.cell (aE _ _ l)).trans l,(b'.cell (aE _ _ c2)).trans c2,g.trans (b'.mono g.size)⟩);have ah:j≠6:=fun e=>by rw[e,u]at G;cases G
  unfold OxF at *;split <;> simp only at h
  all_goals first | exact h | exact absurd rfl ah | trivial
 case o7 =>
  rintro w L _ W u s ⟨v,rfl,d,f,k,c0,l,c2,g⟩ K p;obtain⟨q,m,t,ai,W1,aj,E,ak⟩:=d 6 (s 6 (by simp));have al:(Ai a [72,73,74,75,76,77,78] v).eval (.tmp 78)=_:=(Aj 6 r rfl (by omega)).trans ai;have D:=(A1 (v:=v) (show 5 ∉ ([72,73,74,75,76,77,78]:List Nat) by decide)).trans F;have C:=Ab f 0;simp only[aJ,aG]at C;have ao:=Ad f 0;have am:=Aa (V v _ q m t W1 W rfl aj E ak);have b : execOp (Ai a [72, 73, 74, 75, 76, 77, 78] v).eval Mv = execOp (aL ⟨#[undef], []⟩) ⟨aD 0, .store 25 (.const (aI (aD ⟨X, 0, aC⟩))) (.const (aP #[aB q m t])), 0, "", #[], aC⟩ := by simp only[execOp, Ac, Mv, D, al]
  refine Br.mk ?_;unfold aN;rw[b];clear b;go_simp;exact p.out _ _ (aU am.out)
def OyF(U i b0 off n c:Nat)(uk un:ByteArray)(ov:Value)(a:Bool)(j:Nat)(x:Value):Prop:=match j with
 | 0=>x=aP #[ov]
 | 1=>x=aI (aD ⟨U,0,aC⟩)
 | 2=>x=aB (aD ⟨b0,off,aC⟩) n c
 | 3=>x=.int .i64 (i:Int)
 | 4=>x=aI (aD ⟨b0,off+i*3,aC⟩)
 | 5=>x=aI (aD ⟨b0,off+i*3,aC⟩)
 | 6=>x=aA uk
 | 7=>x=aI (aD ⟨U,0,aC⟩)
 | 8=>x=aB (aD ⟨b0,off,aC⟩) n c
 | 9=>x=.int .i64 (i:Int)
 | 10=>x=aI (aD ⟨b0,off+i*3,aC⟩)
 | 11=>x=aI (aD ⟨b0,off+i*3+1,aC⟩)
 | 12=>x=aA un
 | 13=>∃b:Int,x=.int .i64 b/\decide (b<0)=a
 | 14=>x=.bool a
 | _=>True
theorem P7{on t:Nat}{u:Option Addr}{y:Bool}(E:W0.cell? ⟨O,0,aC⟩=aD (aB u on t))(F:W0.cell? ⟨U,0,aC⟩=aD (aB (aD ⟨b0,off,aC⟩) n c))(G:W0.cell? ⟨b0,off+i*3,aC⟩=aD (aA uk))(H:W0.cell? ⟨b0,off+i*3+1,aC⟩=aD (aA un))(I:i<n)(J:∀W,Below W0.heap.size W0 W->Calls prog 52 #[aP #[(aB u on t)],aA uk,aA un] W fun e w'=>(∃w:Int,e=aR (.int .i64 w)/\decide (w<0)=y)/\Below W.heap.size W w')
  (M:a.eval (.tmp 3)=aI (aD ⟨O,0,aC⟩)) (B:a.eval (.tmp 2)=aI (aD ⟨U,0,aC⟩)) (C:a.eval (.tmp 9)=.int .i64 (i:Int)) (ak:a.tmps.size=85)
  (N:∀v a' W',a'=Ai a [57,58,59,60,61,62,63,64,65,66,67,68,69,70,71] v->v 14=.bool y->Below W0.heap.size W0 W'->Q .normal a' W'):(bE 15 Ae4.toArray true).wp prog Q a W0:=by
 have m:([57,58,59,60,61,62,63,64,65,66,67,68,69,70,71]:List Nat).Nodup:=by decide
 have i3:(0:Int)<=(i:Int):=by omega
 have i4:(i:Int)<(n:Int):=by omega
 refine DK [57,58,59,60,61,62,63,64,65,66,67,68,69,70,71] (fun j x _=>OyF U i b0 off n c uk un (aB u on t) y j x) (fun _ W=>W.cell? ⟨O,0,aC⟩=aD (aB u on t)/\W.cell? ⟨U,0,aC⟩=aD (aB (aD ⟨b0,off,aC⟩) n c)/\W.cell? ⟨b0,off+i*3,aC⟩=aD (aA uk)/\W.cell? ⟨b0,off+i*3+1,aC⟩=aD (aA un)/\Below W0.heap.size W0 W) 15 [0,1,2,3,4,5,6,7,8,9,10,11,12,13,14] (by kernel_rfl) rfl (by decide) (by kernel_rfl) ?h1 ⟨E,F,G,H,(aO _ _).drew⟩ ?hall ?hend;case h1 =>
  intro i x W I;unfold OyF;split <;> first | omega | trivial
 case hend =>
  intro v W' L al b P;exact aU (N v _ W' rfl (b 14) P.2.2.2.2)
 refine Ag.ad (o:=Md) [] (by kernel_rfl) (by decide) (by kernel_rfl) rfl ?o0 (Ag.ad (o:=Me) [] (by kernel_rfl) (by decide) (by kernel_rfl) rfl ?o1 (Ag.ad (o:=Mf) [1] (by kernel_rfl) (by decide) (by kernel_rfl) rfl ?o2 (Ag.ad (o:=Mg) [] (by kernel_rfl) (by decide) (by kernel_rfl) rfl ?o3 (Ag.ad (o:=Mh) [2,3] (by kernel_rfl) (by decide) (by kernel_rfl) rfl ?o4 (Ag.ad (o:=Mi) [4] (by kernel_rfl) (by decide) (by kernel_rfl) rfl ?o5 (Ag.ad (o:=Mj) [5] (by kernel_rfl) (by decide) (by kernel_rfl) rfl ?o6 (Ag.ad (o:=Ml) [] (by kernel_rfl) (by decide) (by kernel_rfl) rfl ?o7 (Ag.ad (o:=Mm) [7] (by kernel_rfl) (by decide) (by kernel_rfl) rfl ?o8 (Ag.ad (o:=Mn) [] (by kernel_rfl) (by decide) (by kernel_rfl) rfl ?o9 (Ag.ad (o:=JS) [8,9] (by kernel_rfl) (by decide) (by kernel_rfl) rfl ?o10 (Ag.ad (o:=JT) [10] (by kernel_rfl) (by decide) (by kernel_rfl) rfl ?o11 (Ag.ad (o:=JU) [11] (by kernel_rfl) (by decide) (by kernel_rfl) rfl ?o12 (Ag.ad (o:=JV) [0,6,12] (by kernel_rfl) (by decide) (by kernel_rfl) rfl ?o13 (Ag.ad (o:=NG) [13] (by kernel_rfl) (by decide) (by kernel_rfl) rfl ?o14 Ag.nil))))))))))))));case o0 =>
  rintro r L _ W s q ⟨v,rfl,b,g,k,c0,l,f⟩ K p;have R:=(A1 (v:=v) (show 3 ∉ ([57,58,59,60,61,62,63,64,65,66,67,68,69,70,71]:List Nat) by decide)).trans M;have d : execOp (Ai a [57, 58, 59, 60, 61, 62, 63, 64, 65, 66, 67, 68, 69, 70, 71] v).eval Md = execOp (aL ⟨#[undef], []⟩) ⟨aD 0, .load 25 (.const (aI (aD ⟨O, 0, aC⟩))), 0, "", #[], aC⟩ := by simp only[execOp, Ac, Md, R]
  refine Br.mk ?_;unfold aN;rw[d];clear d;go_simp;exact p.out _ _ (A7.next (W:=W) b 0 (aP #[(aB u on t)]) (Ao 0 m rfl) (fun _ _ h=>h) rfl ⟨g,k,c0,l,f⟩)
 case o1 =>
  rintro r L _ W s q ⟨v,rfl,b,g,k,c0,l,f⟩ K p;have z:=(A1 (v:=v) (show 2 ∉ ([57,58,59,60,61,62,63,64,65,66,67,68,69,70,71]:List Nat) by decide)).trans B;have d : execOp (Ai a [57, 58, 59, 60, 61, 62, 63, 64, 65, 66, 67, 68, 69, 70, 71] v).eval Me = execOp (aL ⟨#[undef], []⟩) ⟨aD 0, .fieldAddr 25 (.const (aI (aD ⟨U, 0, aC⟩))) 0, 0, "", #[], aC⟩ := by simp only[execOp, Ac, Me, z]
  refine Br.mk ?_;unfold aN;rw[d];clear d;go_simp;exact p.out _ _ (A7.next (W:=W) b 1 (aI (aD ⟨U,0,aC⟩)) (Ao 1 m rfl) (fun _ _ h=>h) rfl ⟨g,k,c0,l,f⟩)
 case o2 =>
  rintro r L _ W s q ⟨v,rfl,b,g,k,c0,l,f⟩ K p;have S:(Ai a [57,58,59,60,61,62,63,64,65,66,67,68,69,70,71] v).eval (.tmp 58)=_:=(Aj 1 m rfl (by omega)).trans (b 1 (q 1 (by simp)));have d : execOp (Ai a [57, 58, 59, 60, 61, 62, 63, 64, 65, 66, 67, 68, 69, 70, 71] v).eval Mf = execOp (aL ⟨#[undef], []⟩) ⟨aD 0, .load 23 (.const (aI (aD ⟨U, 0, aC⟩))), 0, "", #[], aC⟩ := by simp only[execOp, Ac, Mf, S]
  refine Br.mk ?_;unfold aN;rw[d];clear d;go_simp;exact p.out _ _ (A7.next (W:=W) b 2 (aB (aD ⟨b0,off,aC⟩) n c) (Ao 2 m rfl) (fun _ _ h=>h) rfl ⟨g,k,c0,l,f⟩)
 case o3 =>
  rintro r L _ W s q ⟨v,rfl,b,g,k,c0,l,f⟩ K p;have A:=(A1 (v:=v) (show 9 ∉ ([57,58,59,60,61,62,63,64,65,66,67,68,69,70,71]:List Nat) by decide)).trans C;have d : execOp (Ai a [57, 58, 59, 60, 61, 62, 63, 64, 65, 66, 67, 68, 69, 70, 71] v).eval Mg = execOp (aL ⟨#[undef], []⟩) ⟨aD 0, .move (.const (.int .i64 (i : Int))), 0, "", #[], aC⟩ := by simp only[execOp, Ac, Mg, A]
  refine Br.mk ?_;unfold aN;rw[d];clear d;go_simp;exact p.out _ _ (A7.next (W:=W) b 3 (.int .i64 (i:Int)) (Ao 3 m rfl) (fun _ _ h=>h) rfl ⟨g,k,c0,l,f⟩)
 case o4 =>
  rintro r L _ W s q ⟨v,rfl,b,g,k,c0,l,f⟩ K p;have T:(Ai a [57,58,59,60,61,62,63,64,65,66,67,68,69,70,71] v).eval (.tmp 59)=_:=(Aj 2 m rfl (by omega)).trans (b 2 (q 2 (by simp)));have V:(Ai a [57,58,59,60,61,62,63,64,65,66,67,68,69,70,71] v).eval (.tmp 60)=_:=(Aj 3 m rfl (by omega)).trans (b 3 (q 3 (by simp)));have d : execOp (Ai a [57, 58, 59, 60, 61, 62, 63, 64, 65, 66, 67, 68, 69, 70, 71] v).eval Mh = execOp (aL ⟨#[undef], []⟩) ⟨aD 0, .indexAddr 23 (.const (aB (aD ⟨b0, off, aC⟩) n c)) (.const (.int .i64 (i : Int))), 0, "", #[], aC⟩ := by simp only[execOp, Ac, Mh, T, V]
  refine Br.mk ?_;unfold aN;rw[d];clear d;go_simp;exact p.out _ _ (A7.next (W:=W) b 4 (aI (aD ⟨b0,off+i*3,aC⟩)) (Ao 4 m rfl) (fun _ _ h=>h) rfl ⟨g,k,c0,l,f⟩)
 case o7 =>
  rintro r L _ W s q ⟨v,rfl,b,g,k,c0,l,f⟩ K p;have z:=(A1 (v:=v) (show 2 ∉ ([57,58,59,60,61,62,63,64,65,66,67,68,69,70,71]:List Nat) by decide)).trans B;have d : execOp (Ai a [57, 58, 59, 60, 61, 62, 63, 64, 65, 66, 67, 68, 69, 70, 71] v).eval Ml = execOp (aL ⟨#[undef], []⟩) ⟨aD 0, .fieldAddr 25 (.const (aI (aD ⟨U, 0, aC⟩))) 0, 0, "", #[], aC⟩ := by simp only[execOp, Ac, Ml, z]
  refine Br.mk ?_;unfold aN;rw[d];clear d;go_simp;exact p.out _ _ (A7.next (W:=W) b 7 (aI (aD ⟨U,0,aC⟩)) (Ao 7 m rfl) (fun _ _ h=>h) rfl ⟨g,k,c0,l,f⟩)
 case o8 =>
  rintro r L _ W s q ⟨v,rfl,b,g,k,c0,l,f⟩ K p;have X:(Ai a [57,58,59,60,61,62,63,64,65,66,67,68,69,70,71] v).eval (.tmp 64)=_:=(Aj 7 m rfl (by omega)).trans (b 7 (q 7 (by simp)));have d : execOp (Ai a [57, 58, 59, 60, 61, 62, 63, 64, 65, 66, 67, 68, 69, 70, 71] v).eval Mm = execOp (aL ⟨#[undef], []⟩) ⟨aD 0, .load 23 (.const (aI (aD ⟨U, 0, aC⟩))), 0, "", #[], aC⟩ := by simp only[execOp, Ac, Mm, X]
  refine Br.mk ?_;unfold aN;rw[d];clear d;go_simp;exact p.out _ _ (A7.next (W:=W) b 8 (aB (aD ⟨b0,off,aC⟩) n c) (Ao 8 m rfl) (fun _ _ h=>h) rfl ⟨g,k,c0,l,f⟩)
 case o9 =>
  rintro r L _ W s q ⟨v,rfl,b,g,k,c0,l,f⟩ K p;have A:=(A1 (v:=v) (show 9 ∉ ([57,58,59,60,61,62,63,64,65,66,67,68,69,70,71]:List Nat) by decide)).trans C;have d : execOp (Ai a [57, 58, 59, 60, 61, 62, 63, 64, 65, 66, 67, 68, 69, 70, 71] v).eval Mn = execOp (aL ⟨#[undef], []⟩) ⟨aD 0, .move (.const (.int .i64 (i : Int))), 0, "", #[], aC⟩ := by simp only[execOp, Ac, Mn, A]
  refine Br.mk ?_;unfold aN;rw[d];clear d;go_simp;exact p.out _ _ (A7.next (W:=W) b 9 (.int .i64 (i:Int)) (Ao 9 m rfl) (fun _ _ h=>h) rfl ⟨g,k,c0,l,f⟩)
 case o10 =>
  rintro r L _ W s q ⟨v,rfl,b,g,k,c0,l,f⟩ K p;have Y:(Ai a [57,58,59,60,61,62,63,64,65,66,67,68,69,70,71] v).eval (.tmp 65)=_:=(Aj 8 m rfl (by omega)).trans (b 8 (q 8 (by simp)));have Z:(Ai a [57,58,59,60,61,62,63,64,65,66,67,68,69,70,71] v).eval (.tmp 66)=_:=(Aj 9 m rfl (by omega)).trans (b 9 (q 9 (by simp)));have d : execOp (Ai a [57, 58, 59, 60, 61, 62, 63, 64, 65, 66, 67, 68, 69, 70, 71] v).eval JS = execOp (aL ⟨#[undef], []⟩) ⟨aD 0, .indexAddr 23 (.const (aB (aD ⟨b0, off, aC⟩) n c)) (.const (.int .i64 (i : Int))), 0, "", #[], aC⟩ := by simp only[execOp, Ac, JS, Y, Z]
  refine Br.mk ?_;unfold aN;rw[d];clear d;go_simp;exact p.out _ _ (A7.next (W:=W) b 10 (aI (aD ⟨b0,off+i*3,aC⟩)) (Ao 10 m rfl) (fun _ _ h=>h) rfl ⟨g,k,c0,l,f⟩)
 case o5 =>
  rintro r L _ W s q ⟨v,rfl,b,g,k,c0,l,f⟩ K p;have aa:(Ai a [57,58,59,60,61,62,63,64,65,66,67,68,69,70,71] v).eval (.tmp 61)=_:=(Aj 4 m rfl (by omega)).trans (b 4 (q 4 (by simp)));have d : execOp (Ai a [57, 58, 59, 60, 61, 62, 63, 64, 65, 66, 67, 68, 69, 70, 71] v).eval Mi = execOp (aL ⟨#[undef], []⟩) ⟨aD 0, .fieldAddr 46 (.const (aI (aD ⟨b0, off + i*3, aC⟩))) 0, 0, "", #[], aC⟩ := by simp only[execOp, Ac, Mi, aa]
  refine Br.mk ?_;unfold aN;rw[d];clear d;go_simp;exact p.out _ _ (A7.next (W:=W) b 5 (aI (aD ⟨b0,off+i*3,aC⟩)) (Ao 5 m rfl) (fun _ _ h=>h) rfl ⟨g,k,c0,l,f⟩)
 case o6 =>
  rintro r L _ W s q ⟨v,rfl,b,g,k,c0,l,f⟩ K p;have ab:(Ai a [57,58,59,60,61,62,63,64,65,66,67,68,69,70,71] v).eval (.tmp 62)=_:=(Aj 5 m rfl (by omega)).trans (b 5 (q 5 (by simp)));have d : execOp (Ai a [57, 58, 59, 60, 61, 62, 63, 64, 65, 66, 67, 68, 69, 70, 71] v).eval Mj = execOp (aL ⟨#[undef], []⟩) ⟨aD 0, .load 9 (.const (aI (aD ⟨b0, off + i*3, aC⟩))), 0, "", #[], aC⟩ := by simp only[execOp, Ac, Mj, ab]
  refine Br.mk ?_;unfold aN;rw[d];clear d;go_simp;exact p.out _ _ (A7.next (W:=W) b 6 (aA uk) (Ao 6 m rfl) (fun _ _ h=>h) rfl ⟨g,k,c0,l,f⟩)
 case o11 =>
  rintro r L _ W s q ⟨v,rfl,b,g,k,c0,l,f⟩ K p;have ac:(Ai a [57,58,59,60,61,62,63,64,65,66,67,68,69,70,71] v).eval (.tmp 67)=_:=(Aj 10 m rfl (by omega)).trans (b 10 (q 10 (by simp)));have d : execOp (Ai a [57, 58, 59, 60, 61, 62, 63, 64, 65, 66, 67, 68, 69, 70, 71] v).eval JT = execOp (aL ⟨#[undef], []⟩) ⟨aD 0, .fieldAddr 46 (.const (aI (aD ⟨b0, off + i*3, aC⟩))) 1, 0, "", #[], aC⟩ := by simp only[execOp, Ac, JT, ac]
  refine Br.mk ?_;unfold aN;rw[d];clear d;go_simp;exact p.out _ _ (A7.next (W:=W) b 11 (aI (aD ⟨b0,off+i*3+1,aC⟩)) (Ao 11 m rfl) (fun _ _ h=>h) rfl ⟨g,k,c0,l,f⟩)
 case o12 =>
  rintro r L _ W s q ⟨v,rfl,b,g,k,c0,l,f⟩ K p;have ad:(Ai a [57,58,59,60,61,62,63,64,65,66,67,68,69,70,71] v).eval (.tmp 68)=_:=(Aj 11 m rfl (by omega)).trans (b 11 (q 11 (by simp)));have d : execOp (Ai a [57, 58, 59, 60, 61, 62, 63, 64, 65, 66, 67, 68, 69, 70, 71] v).eval JU = execOp (aL ⟨#[undef], []⟩) ⟨aD 0, .load 9 (.const (aI (aD ⟨b0, off + i*3 + 1, aC⟩))), 0, "", #[], aC⟩ := by simp only[execOp, Ac, JU, ad]
  refine Br.mk ?_;unfold aN;rw[d];clear d;go_simp;exact p.out _ _ (A7.next (W:=W) b 12 (aA un) (Ao 12 m rfl) (fun _ _ h=>h) rfl ⟨g,k,c0,l,f⟩)
 case o13 =>
  rintro r L _ W s q ⟨v,rfl,b,g,k,c0,l,f⟩ K p;have ae:(Ai a [57,58,59,60,61,62,63,64,65,66,67,68,69,70,71] v).eval (.tmp 57)=_:=(Aj 0 m rfl (by omega)).trans (b 0 (q 0 (by simp)));have af:(Ai a [57,58,59,60,61,62,63,64,65,66,67,68,69,70,71] v).eval (.tmp 63)=_:=(Aj 6 m rfl (by omega)).trans (b 6 (q 6 (by simp)));have ag:(Ai a [57,58,59,60,61,62,63,64,65,66,67,68,69,70,71] v).eval (.tmp 69)=_:=(Aj 12 m rfl (by omega)).trans (b 12 (q 12 (by simp)));have ah:=J W f;have d : execOp (Ai a [57, 58, 59, 60, 61, 62, 63, 64, 65, 66, 67, 68, 69, 70, 71] v).eval JV = execOp (aL ⟨#[undef], []⟩) ⟨aD 0, .call { callee := .value (.func 52), args := #[.const (aP #[(aB u on t)]), .const (aA uk), .const (aA un)], argTypes := #[25, 9, 9] }, 0, "", #[], aC⟩ := by simp only[execOp, Ac, JV, resolve, BQ, aW, aT, aZ, ae, af, ag]
  refine Br.mk ?_;unfold aN;rw[d];clear d;go_simp;refine ah.mono ?_;rintro e W' ⟨⟨w,rfl,D⟩,b'⟩;exact p.out _ _ (A7.next (W:=W) b 13 (.int .i64 w) (Ao 13 m rfl) (fun _ _ h=>h) ⟨w,rfl,D⟩ ⟨(b'.cell (aE _ _ g)).trans g,(b'.cell (aE _ _ k)).trans k,(b'.cell (aE _ _ c0)).trans c0,(b'.cell (aE _ _ l)).trans l,f.trans (b'.mono f.size)⟩)
 case o14 =>
  rintro r L _ W s q ⟨v,rfl,b,g,k,c0,l,f⟩ K p;obtain⟨w,ai,D⟩:=b 13 (q 13 (by simp));have aj:(Ai a [57,58,59,60,61,62,63,64,65,66,67,68,69,70,71] v).eval (.tmp 70)=_:=(Aj 13 m rfl (by omega)).trans ai;refine Br.mk ?_;unfold aN;simp only[execOp,NG,Ac,aj];go_simp;exact p.out _ _ (A7.next (W:=W) b 14 (.bool y) (Ao 14 m rfl) (fun _ _ h=>h) rfl ⟨g,k,c0,l,f⟩)
variable {us os:List PBlock}{uv ov:Value}{W3:World}
def It(bs:List PBlock):List PBlock:=bs.foldl (fun acc a=>Cb blockLt a acc) []
theorem KL(bs:List PBlock)(b:PBlock):It (bs++[b])=Cb blockLt b (It bs):=by simp[It]
theorem Xj(a:Am us)(c:Am os):It (AM us os)=Cv (AM us os):=by
 unfold Cv;rw[Kx (fun b d=>(D3 a c b d).2.2)];rfl
theorem VK(c:AJ us=true)(d:AJ os=true)(h:AJ (It (AM us os))=true):Bb us os=It (AM us os):=by
 have a:=A0.1 c;have b:=A0.1 d;rw[Xj a b]at h⊢;refine Fo a b ?_;have h1:=(A0.1 h).1;rw[(C7 _).length_eq,bN]at h1;exact h1
theorem Aa9(d:AJ us=true)(e:AJ os=true)(h:AJ (It (AM us os))=false):Bb us os=[]:=by
 have a:=A0.1 d;have b:=A0.1 e;unfold Bb;rw[if_neg];rintro⟨_,_,c⟩;have h1:=A0.2 (Fp a b c);rw[Fo a b c,<-Xj a b,h]at h1;cases h1
theorem JW(h:AJ us=false\/AJ os=false):Bb us os=[]:=by
 unfold Bb;rw[if_neg];rintro⟨h1,a,_⟩;rcases h with h | h
 ·rw[h1]at h;cases h
 ·rw[a]at h;cases h
structure YZ(w:World)(X:Nat)(uv ov:Value)(us os xs:List BAt)(v:Value)(W:World):Prop where
 bw:Below w.heap.size w W
 ub:W.heap[w.heap.size]?=aD (aH #[uv] 25 (0,0))
 ob:W.heap[w.heap.size+1]?=aD (aH #[ov] 25 (0,0))
 rb:W.heap[w.heap.size+2]?=aD (aH #[aB aC 0 0] 25 (0,0))
 xb:W.heap[X]?=aD (aH #[v] 25 (0,0))
 uin:As W uv us
 oin:As W ov os
 bin:As W v xs
 far:AD X v xs
 ufar:∀q,w.heap.size<=q->AD q uv us
 ofar:∀q,w.heap.size<=q->AD q ov os
 aj:∀y∈xs,y.name.size<=1048576/\Ah y.ls
 hX:w.heap.size+3<=X
theorem YZ.V{us os xs:List BAt}(h:YZ w X uv ov us os xs v W)(a:Below W.heap.size W W'):YZ w X uv ov us os xs v W' :=
 ⟨h.bw.trans (a.mono h.bw.size),(a.block _ (aF.1 h.ub).1).trans h.ub,(a.block _ (aF.1 h.ob).1).trans h.ob,(a.block _ (aF.1 h.rb).1).trans h.rb,(a.block X (aF.1 h.xb).1).trans h.xb,h.uin.V a,h.oin.V a,h.bin.V a,h.far,h.ufar,h.ofar,h.aj,h.hX⟩
theorem YZ.turn{R:Nat}{us os xs:List BAt}(h:YZ w X uv ov us os xs v W)(a:W.grownBy W' (aD R))(f:w.heap.size+3<=R)(b:R≠X)(c:AD R v xs):YZ w X uv ov us os xs v W':=by
 have d:=h.bw.size;exact⟨Bh h.bw d (by omega) a,(a.block _ (aF.1 h.ub).1 (by intro e;have:=aQ e;omega)).trans h.ub,(a.block _ (aF.1 h.ob).1 (by intro e;have:=aQ e;omega)).trans h.ob,(a.block _ (aF.1 h.rb).1 (by intro e;have:=aQ e;omega)).trans h.rb,(a.block X (aF.1 h.xb).1 (by intro e;exact b (aQ e).symm)).trans h.xb,h.uin.far (h.ufar R (by omega)) a,h.oin.far (h.ofar R (by omega)) a,h.bin.far c a,h.far,h.ufar,h.ofar,h.aj,h.hX⟩
def Xk(xs:List BAt)(v:Value)(x:BAt)(W1:World)(v':Value)(W2:World):Prop:=∃a:List BAt,a.map BAt.I=Cb blockLt x.I (xs.map BAt.I)/\a.length=xs.length+1/\(∀y∈a,y=x\/y∈xs)/\As W2 v' a/\∀q,q<W1.heap.size->AD q v xs->Ay q x.v x.ls->AD q v' a
theorem NH{xs:List BAt}{x:BAt}(f:As W v xs)(g:xs.length<=1048576)(i:AH W x):Calls prog 54 #[aP #[v],aP #[aA x.aa,aA x.name,x.v]] W fun e w'=>∃q m d,e=aR (aP #[aB q m d])/\Xk xs v x W (aB q m d) w'/\Below W.heap.size W w':=by
 refine(BU f g i).mono ?_;rintro e w' ⟨a,n,c,j,rfl,h,b⟩;exact⟨a,n,c,rfl,⟨j,h⟩,b⟩
def Agf(xs:List BAt)(v:Value)(x:BAt)(W:World)(e:Ending)(w':World):Prop:=∃q m a,e=aR (aP #[aB q m a])/\Xk xs v x W (aB q m a) w'/\Below W.heap.size W w'
theorem NI{bl:List LAt}{xs:List BAt}(a:As W v xs)(b:xs.length<=1048576)(c:An W bv bl):Calls prog 54 #[aP #[v],aP #[aA kind,aA name,bv]] W fun e w'=>Agf xs v ⟨kind,name,bv,bl⟩ W e w':=NH (x:=⟨kind,name,bv,bl⟩) a b c
theorem YZ.put{us os xs c:List BAt}{x:BAt}(h:YZ w X uv ov us os xs v W)(g:Below W.heap.size W W1)(i:Below W1.heap.size W1 W2)(b:W2.grownBy W3 (aD X))(j:W3.heap[X]?=aD (aH #[v'] 25 (0,0)))(k:As W2 v' c)(l:∀y∈c,y=x\/y∈xs)(m:∀q,q<W1.heap.size->AD q v xs->Ay q x.v x.ls->AD q v' c)(n:Ay X x.v x.ls)(o:x.name.size<=1048576/\Ah x.ls):YZ w X uv ov us os c v' W3:=by
 have h1:=h.V g;have a:=h1.V i;have p:=a.bw.size;have r:=h.hX;have s:X<W1.heap.size:=(aF.1 h1.xb).1;have f:=m X s h.far n;refine⟨Bh a.bw p (by omega) b,(b.block _ (aF.1 a.ub).1 (by intro e;have:=aQ e;omega)).trans a.ub,(b.block _ (aF.1 a.ob).1 (by intro e;have:=aQ e;omega)).trans a.ob,(b.block _ (aF.1 a.rb).1 (by intro e;have:=aQ e;omega)).trans a.rb,j,a.uin.far (h.ufar X (by omega)) b,a.oin.far (h.ofar X (by omega)) b,k.far f b,f,h.ufar,h.ofar,fun y d=>?_,r⟩;rcases l y d with rfl | d
 ·exact o
 ·exact h.aj y d
theorem As.fresh'(h:As w v bs)(a:w.heap.size<=q):AD q v bs:=⟨Cc.of_lt h.1 (by decide) a,fun x b=>An.fresh (h.2 x b) a⟩
def L6P(u o:BAt)(W1:World)(v':Value)(W2:World):Prop:=∃ls:List LAt,ls.map LAt.I=DA (rulesOf o.aa) (u.ls.map LAt.I) (o.ls.map LAt.I)/\(∀y∈ls,y∈o.ls\/y∈u.ls)/\An W2 v' ls/\∀q,q<W1.heap.size->Ay q u.v u.ls->Ay q o.v o.ls->Ay q v' ls
def Agg(w:World)(X:Nat)(uv ov:Value)(us os:List BAt)(i:Value)(W:World):Prop:=∃(j:Nat) (v:Value) (xs:List BAt),i=.int .i64 (j:Int)/\j<=os.length/\xs.length=j/\xs.map BAt.I=It (((os.map BAt.I).take j).map (EX (us.map BAt.I)))/\YZ w X uv ov us os xs v W
def Agh(w:World)(X:Nat)(uv ov:Value)(us os:List BAt)(i:Value)(W:World):Prop:=∃(j:Nat) (v:Value) (xs:List BAt),i=.int .i64 (j:Int)/\j<=us.length/\xs.length<=os.length+j/\xs.map BAt.I=It ((os.map BAt.I).map (EX (us.map BAt.I))++Fm ((us.map BAt.I).take j) (os.map BAt.I))/\YZ w X uv ov us os xs v W
theorem Y0{a:PBlock}:Fm (us++[a]) os=Fm us os++(if (look os a.aa a.name).isNone=true then [a] else []):=by
 unfold Fm;rw[bK];congr 1;simp[bW]
theorem TZ{R:List Plain}{u o:List PLine}:(DA R u o).length<=o.length+u.length:=by
 unfold DA;rw[(BZ _ _).length_eq,bT];have:(EC u o).length<=u.length:=bP _ _;omega
