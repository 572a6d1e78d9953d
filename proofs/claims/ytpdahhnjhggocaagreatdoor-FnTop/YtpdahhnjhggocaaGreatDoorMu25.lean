import Derived.Test.YtpdahhnjhggocaaGreatDoorMu22
import Derived.Test.YtpdahhnjhggocaaGreatDoorMu24
import Derived.Defers
import Derived.Recover
open Go.Proofs.Tryz
open Go.Value renaming slice->aA,pointer->aG,string->aJ,tuple->aQ,agg->aT
open List renaming getElem?_cons_zero->aB,getElem?_toArray->aC,setIfInBounds_toArray->aO,mem_map->aP,mem_map_of_mem->aR,set_cons_zero->aS,drop_zero->aV,map_eq_nil_iff->aY,mem_singleton->aZ,size_toArray->bA,mem_flatMap->bB,length_map->bC,drop_left->bD,map_cons->bE
open Go.Obj renaming cells->aD
open Option renaming none->aE,some->aI
open Go.World renaming block_lt_of_cell?->aF
open Go.RowKit.Below renaming refl->aH
open Go.Ending renaming returned->aK
open Go.NoPanic renaming normal->aL
open Nat renaming le_refl->aM,le_trans->aN,lt_of_lt_of_le->aU
open Go.Operand renaming tmp->aW
open Option.some renaming inj->aX
open Go.Oper renaming mk->bF
open Go.Op renaming store->bG
open Go.Exit renaming thenS->bH
namespace Go.Proofs.YtpdahhnjhggocaaGreatDoor
open Go.RowKit
set_option maxHeartbeats 16000000
set_option maxRecDepth 100000
variable {A TA:List PBlock}{az bs:List BAt}{W:World}{X n c:Nat}{cs:Array Value}{v:Value}{xs:List Value}
theorem Abr(k:Nat):∀cs:List PChange,(∀c∈cs,c.ac.length<=k)->TI cs<=k*cs.length
 | [],_=>by simp[TI]
 | c::cs,h=>by
  rw[TJ,List.length_cons,Nat.mul_succ];have h1:=h c (by simp);have b:=Abr k cs (fun d a=>h d (by simp[a]));omega
theorem NU{B:List PBlock}(h:Am B){b:PBlock}(a:b∈B):b.ac.length<=120:=by
 have h1:=(h.2.1 b a).2.2.few;have c:=(Bf b.aa).1;omega
theorem YG{B:List PBlock}{c:PChange}(d:c∈diffS A B):c.ac.length<=120/\(∃b,(b∈A\/b∈B)/\c.name=b.name)/\∀b∈A,b.ac.length<=120:=by
 unfold diffS at d;split at d
 ·rename_i h;have g:=A0.1 h.2;have e:∀b∈A,b.ac.length<=120:=fun b i=>NU (A0.1 h.1) i
  rcases List.mem_append.1 d with d | d
  ·obtain⟨a,j,rfl⟩:=aP.1 d;exact⟨by simp[Gd],⟨a,.inl (List.mem_filter.1 j).1,rfl⟩,e⟩
  ·obtain⟨y,f,d⟩:=bB.1 d;unfold El at d;split at d
   ·rw[aZ.1 d];exact⟨NU g f,⟨y,.inr f,rfl⟩,e⟩
   ·rename_i x k;obtain⟨p,_,d⟩:=bB.1 d;unfold FO at d;split at d
    ·cases d
    ·rw[aZ.1 d];exact⟨aN (List.length_filter_le _ _) (NU g f),⟨x,.inl (Bo (show look A y.aa y.name=aI x from k)).1,rfl⟩,e⟩
 ·cases d
def ApS(TA:List PBlock)(cs:List Bl):Prop:=cs.length<=1048576/\(∀c∈cs,c.name.size<=1048576/\Ah c.ls)/\TI (cs.map Bl.I)<=1048576/\∀b∈TA,b.ac.length+TI (cs.map Bl.I)<=1048576
def ApT(TA:List PBlock)(cs:List Bl):Prop:=cs.length<=781/\(∀c∈cs,c.name.size<=1048576/\Ah c.ls/\c.ls.length<=121)/\∀b∈TA,b.ac.length<=120
theorem ApT.s{cs:List Bl}(h:ApT TA cs):ApS TA cs:=by
 have h1:=Abr 121 (cs.map Bl.I) (fun c a=>by
  obtain⟨d,e,rfl⟩:=aP.1 a;simpa [Bl.I] using (h.2.1 d e).2.2)
 rw[bC]at h1;have g:=h.1;exact⟨by omega,fun c a=>⟨(h.2.1 c a).1,(h.2.1 c a).2.1⟩,by omega,fun b f=>by have:=h.2.2 b f;omega⟩
theorem Agr{cs:List Bl}(h:cs.map Bl.I=diffS (az.map BAt.I) (bs.map BAt.I))(m:∀c∈cs,Ah c.ls)(sa:Ax az)(n:Ax bs):ApS (az.map BAt.I) cs/\cs.length<=780/\(cs≠[]->(∀c∈cs,c.name.size<=1048576/\Ah c.ls/\c.ls.length<=120)/\∀b∈az.map BAt.I,b.ac.length<=120):=by
 have j:=XF (az.map BAt.I) (bs.map BAt.I);rw[<-h,bC]at j;have f:∀c∈cs,(c.name.size<=1048576/\Ah c.ls/\c.ls.length<=120)/\∀b∈az.map BAt.I,b.ac.length<=120:=fun c l=>by
  have h1:=YG (show c.I∈diffS (az.map BAt.I) (bs.map BAt.I) by rw[<-h];exact aR l);refine⟨⟨?_,m c l,by simpa [Bl.I] using h1.1⟩,h1.2.2⟩;obtain⟨b,a,e⟩:=h1.2.1;rw[show c.name=b.name from e];rcases a with a | a
  ·obtain⟨x,g,rfl⟩:=aP.1 a;exact(sa.2 x g).1
  ·obtain⟨x,g,rfl⟩:=aP.1 a;exact(n.2 x g).1
 cases cs with
 | nil =>
  refine⟨⟨by simp,by simp,by simp[TI],fun b a=>?_⟩,by simp,fun k=>absurd rfl k⟩;obtain⟨x,g,rfl⟩:=aP.1 a;have:=(sa.2 x g).2.1;simpa [TI,BAt.I] using this
 | cons c cs=>exact⟨ApT.s ⟨by omega,fun d i=>⟨(f d i).1.1,(f d i).1.2.1,by have:=(f d i).1.2.2;omega⟩,(f c (by simp)).2⟩,j,fun _=>⟨fun d i=>(f d i).1,(f c (by simp)).2⟩⟩
theorem RX{T:TypeId}(f:AA W X cs T)(g:∀ (i:Nat) (s:ByteArray),cs[i]?≠aI (aJ s)){size:Nat}(h:Ap W v n size xs)(a:0<n->∃s,xs[0]?=aI (aJ s)):Cc X v n:=by
 obtain⟨l,ao,m,rfl,o,c⟩:=h;rcases c with d | ⟨b,off,rfl,c⟩
 ·exact .inl d
 ·by_cases d:n=0
  ·exact .inl d
  ·refine .inr fun b' p m' q e j=>?_
   obtain⟨s,a⟩:=a (by omega);have h1:=c 0 _ a;cases e
   subst j;have k:=Ab f (off+0);rw[k]at h1;exact g _ s h1
theorem Wh{T:TypeId}(a:AA W X cs T)(b:∀ (i:Nat) (s:ByteArray),cs[i]?≠aI (aJ s))(h:As W v bs):AD X v bs:=by
 refine⟨RX a b h.1 fun k=>?_,fun x c=>⟨RX a b (h.2 x c).1 fun k=>?_,fun y d=>RX a b ((h.2 x c).2 y d) fun k=>?_⟩⟩
 ·cases bs with
  | nil=>exact absurd k (by simp)
  | cons y ls=>exact⟨y.aa,by simp[BAt.cells]⟩
 ·cases e:x.ls with
  | nil=>rw[e]at k;exact absurd k (by simp)
  | cons y ls=>exact⟨y.key,by simp[LAt.cells]⟩
 ·cases f:y.ws with
  | nil=>rw[f]at k;exact absurd k (by simp)
  | cons s g=>exact⟨⟨s.toArray⟩,by unfold strs;simp⟩
theorem Ads{a:Option Addr}{T:TypeId}(b:AA W X #[aA a n c] T)(d:As W v bs):AD X v bs:=by
 refine Wh b (fun i s=>?_) d
 match i with
 | 0=>simp
 | i+1=>simp
structure DaE(w:World)(R X:Nat)(az:List BAt)(av v:Value)(cs:List Bl)(W:World):Prop where
 bw:Below w.heap.size w W
 rb:AA W R #[aA aE 0 0] 25
 bx:AA W X #[av] 25
 bin:As W av az
 ci:DR W v cs
 cf:Cc R v cs.length/\∀c∈cs,Ay R c.v c.ls
structure DaS(w:World)(B p R X:Nat)(az:List BAt)(av v:Value)(cs:List Bl)(k:Nat)(W:World):Prop where
 bw:Below w.heap.size w W
 rb:AA W R #[aA aE 0 0] 25
 bx:AA W X #[av] 25
 bin:As W av az
 abv:∀q,B<=q->AD q av az
 rd:Rd (w.heap.size+1) W p k
 co:CU B W v cs
 hB:B<=W.heap.size
 ord:w.heap.size<=R/\R<p/\p<X/\X<B
variable {B M:Nat}{w:World}
theorem Ab4{p:Int}{c:Bl}(g:Mk B M p w v bs)(h:Am (bs.map BAt.I))(o:EJ c.I)(d:An w c.v c.ls)(i:Ah c.ls)(l:c.name.size<=1048576)(m:∀b∈bs,b.ls.length+c.ls.length<=1048576):Calls prog 130 #[aG (aI ⟨M,0,aE⟩),c.step] w fun e w'=>Ev B M p (C0 (bs.map BAt.I) c.I) w e w':=by
 obtain⟨j,ck,cn,k,cv,f⟩:=c;have d:An w cv f:=d;have i:Ah f:=i;have l:cn.size<=1048576:=l;have m:∀b∈bs,b.ls.length+f.length<=1048576:=m;obtain⟨la,lc,rfl⟩:=d.1.ae;unfold Bl.I at o⊢;unfold Bl.step;simp only at *;rcases o with ⟨h1,a,n⟩ | ⟨h1,a⟩ | ⟨h1,a,n⟩ | ⟨h1,a⟩
 ·obtain rfl:j=1:=h1;obtain rfl:k=⟨#[]⟩:=a;obtain rfl:f=[]:=aY.1 n;exact YJ g h ck cn
 ·obtain rfl:j=2:=h1;obtain rfl:k=⟨#[]⟩:=a;exact Ab1 g h ck cn rfl d i l
 ·obtain rfl:j=3:=h1;exact Ab3 g h ck cn k rfl d i (fun e=>a (by rw[e];rfl)) (fun y q=>n _ (aR q)) m
 ·obtain rfl:j=4:=h1;obtain rfl:f=[]:=aY.1 a;exact Wx g h ck cn k
theorem Wy(a b:Addr)(w:World):CallsD prog 128 #[aG (aI a),aG (aI b)] .returning w fun e c w'=>e=aK (aQ #[])/\c=.returning/\w'=w:=by
 refine callsD_of_wpS func128 rfl fun d cs f=>?_
 apply wpS_seq;apply wpS_region;simp[wpOpsS,go_sem,recoverD,f,ntmps128,bH];refine wpS_of_wp ?_;change Code.wp _ _ _ { tmps:=#[aG (aI a),aG (aI b),undef,undef,undef,.nilIface,undef,undef,undef,undef,undef,undef,undef,undef,undef],defers:=[] } _;go_wp2;exact⟨rfl,.returning,by cases d;simp_all,aQ #[],by simp[results,results128],rfl,rfl,rfl⟩
theorem Adz(p:Value)(W:World):(Instr.typeAssert (.iface 173 p) 20 173 true).run prog W=.ok (aQ #[p,.bool true]) W:=by kernel_rfl
def KP(a C:Nat)(q:Int)(w:World)(e:Ending)(b:FrameMode)(w':World):Prop:=e=aK (aQ #[])/\b=.panicking [{ v:=.iface 173 (aT #[.int .i64 q]),recovered:=true }]/\AA w' a #[aA aE 0 0] 25/\AA w' C #[.int .i64 (2+q)] 3/\w.heap.size<=w'.heap.size/\w'.os=w.os/\w'.tape=w.tape/\w'.output=w.output/\∀k,k<w.heap.size->k≠a->k≠C->w'.heap[k]?=w.heap[k]?
theorem Oe{a C:Nat}{q:Int}{x:Value}{y:Value}(o:AA w a #[x] 25)(p:AA w C #[y] 3)(s:a≠C)(t:0<=q/\q<=1048576):CallsD prog 128 #[aG (aI ⟨a,0,aE⟩),aG (aI ⟨C,0,aE⟩)] (.panicking [{ v:=.iface 173 (aT #[.int .i64 q]),recovered:=false }]) w fun e G w'=>KP a C q w e G w':=by
 have O:=fun W=>Adz (aT #[.int .i64 q]) W
 have h:=(aH w.heap.size w).alloc (aM _) (aD #[.int .i64 q] 173);have l:=AA.new w #[.int .i64 q] 173;have i:=Ab l 0;simp only[aC,aB]at i;have u:=o.V h;have z:=p.V h;have P:=o.lt;have Q:=p.lt;refine callsD_of_wpS func128 rfl fun R cs H=>?_
 apply wpS_seq;apply wpS_region;simp[wpOpsS,go_sem,recoverD,H,ntmps128,bH];refine wpS_of_wp ?_;change Code.wp _ _ _ { tmps:=#[aG (aI ⟨a,0,aE⟩),aG (aI ⟨C,0,aE⟩),undef,undef,undef,.iface 173 (aT #[.int .i64 q]),undef,undef,undef,undef,undef,undef,undef,undef,undef],defers:=[] } _;go_upto_region 7 with fail
 have T:0<=q:=t.1;have U:q<=1048576:=t.2;have V:IntKind.i64.wrap (2+q)=2+q:=by rw[IntKind.wrap_i64];omega
 have t0:∀r:{ W:World // W.cell? ⟨w.heap.size,0,aE⟩=aI (.int .i64 q) },r.1.cell? ⟨w.heap.size,0,aE⟩=aI (.int .i64 q):=fun r=>r.2
 letI I:Inhabited { W:World // W.cell? ⟨w.heap.size,0,aE⟩=aI (.int .i64 q) }:=⟨⟨_,i⟩⟩;refine AW (S:=fun W=>W.cell? ⟨w.heap.size,0,aE⟩=aI (.int .i64 q)) 5 6 (by kernel_rfl) rfl ?_;refine AF [true,true,true,true,false,false] 2 rfl (by kernel_rfl) i ?_;simp only[AU,AV,AR];iterate 4 (refine Av (fun K c=>?_);go_simp;refine c _ ?_;clear c K)
 refine A4 ?_;clear t0;have d:=h.drew;have A:AA (w.alloc (aD #[.int .i64 q] 173)).drew a #[x] 25:=u;have J:AA (w.alloc (aD #[.int .i64 q] 173)).drew C #[y] 3:=z;have L:AA (w.alloc (aD #[.int .i64 q] 173)).drew w.heap.size #[.int .i64 q] 173:=l;clear u z l h I i;generalize (w.alloc (aD #[.int .i64 q] 173)).drew=W1 at *;refine Ae (f:=1) (rs:=[4]) (by kernel_rfl) (by simp) ?_;refine Af.cons rfl (by decide) (fun K c=>?_) Af.nil;rw[if_pos (by rfl)];refine wp_store_row 25 _ _ rfl a #[aA aE 0 0] rfl rfl 25 _ A (by kernel_rfl) rfl (by first | rfl | kernel_rfl) ?_
 have b:=Ba W1 a #[aA aE 0 0];have B:=L.grown b (by omega);have j:=J.grown b (fun e=>s e.symm);have D:AA (W1.setRow a #[aA aE 0 0]) a #[aA aE 0 0] 25:=setRow_heap _ _ _ _ _ _ A;have E:=Ab B 0;simp only[aC,aB]at E;refine c.out _ _ E ?_;clear c K;have c3:=Ab j 0;have X:=Ad j 0;simp only[aC,aB]at c3;have g:=CM (W1.setRow a #[aA aE 0 0]) C 0 (.int .i64 (2+q));have m:=j.set 0 (.int .i64 (2+q));simp only[aO,aS]at m;have F:=D.grown g s;have M:=Aa (show KP a C q w (aK (aQ #[])) (.panicking [{ v:=.iface 173 (aT #[.int .i64 q]),recovered:=true }]) ((W1.setRow a #[aA aE 0 0]).setCell ⟨C,0,aE⟩ (.int .i64 (2+q))) from⟨rfl,rfl,F,m,aN d.size (aN b.size g.size),g.os.trans (b.os.trans d.os),g.tape.trans (b.tape.trans d.tape),g.output.trans (b.output.trans d.output),fun k n h1 N=>(g.block k (aU n (aN d.size b.size)) (fun e=>N (aX e))).trans ((b.block k (aU n d.size) (fun e=>h1 (aX e))).trans (d.block k n))⟩);clear b g B j D m F;generalize W1.setRow a #[aA aE 0 0]=W2 at *;refine AK (by kernel_rfl) rfl (by kernel_rfl) ?_;intro K c;go_simp;refine c.out _ _ (aL ?_);clear c K;exact⟨rfl,_,rfl,aQ #[],by simp[results,results128],M.out⟩
variable {u:World}{lv:Value}
theorem Mk.place{p:Int}(h:Mk B M p w v bs)(q:Int):Mk B M q (w.setCell ⟨M,1,aE⟩ (.int .i64 q)) v bs/\Below B w (w.setCell ⟨M,1,aE⟩ (.int .i64 q)):=by
 have a:=CM w M 1 (.int .i64 q);have b:Below B w (w.setCell ⟨M,1,aE⟩ (.int .i64 q)):=Bh (aH B w) h.size h.low a;have h1:=h.box.set 1 (.int .i64 q);simp only[aO,aS,List.set_cons_succ]at h1;exact⟨⟨h1,h.low,Az.box h.own h.box (Lx (by decide) (by decide) (by decide)) a,h.std.V b⟩,b⟩
def McJ(w:World)(M:Nat)(cs:List Bl)(a:List PBlock × Int)(i:Value)(W:World):Prop:=∃(k:Nat) (v:Value) (bs:List BAt) (p:Int),i=.int .i64 (k:Int)/\k<=cs.length/\Below w.heap.size w W/\AA W (w.heap.size+1) #[aA aE 0 0] 25/\AA W (w.heap.size+2) #[.int .i64 0] 3/\Mk (w.heap.size+3) M p W v bs/\Am (bs.map BAt.I)/\D4 k (bs.map BAt.I) ((cs.drop k).map Bl.I)=a/\TI ((cs.drop k).map Bl.I)<=1048576/\∀b∈bs,b.ls.length+TI ((cs.drop k).map Bl.I)<=1048576
theorem Ab5{c:PChange}(h:¬EJ c):C0 A c=aE:=by
 unfold C0;split
 ·rw[if_neg (fun k=>h (.inr (.inl ⟨k.1,k.2.1⟩)))]
 ·rw[if_neg (fun k=>h (.inl ⟨k.1,k.2.1,k.2.2⟩)),if_neg (fun k=>h (.inr (.inr (.inl ⟨k.1,k.2.1,k.2.2.1⟩)))),if_neg (fun k=>h (.inr (.inr (.inr ⟨k.1,k.2.1⟩))))]
theorem PM{b:World}{k:Int}{e:Ending}{md:FrameMode}{c:List PBlock × Int}(a:Below w.heap.size w u)(h:KP (w.heap.size+1) (w.heap.size+2) k u e md b)(d:c=([],2+k)):ND c w (aK (aQ #[aT #[aA aE 0 0],.int .i64 (2+k)])) b:=by
 obtain⟨_,_,_,_,h1,g,i,j,l⟩:=h;refine⟨aA aE 0 0,[],by rw[d],by rw[d];rfl,BP _ _,⟨g.trans a.os,i.trans a.tape,j.trans a.output,aN a.size h1,fun q f=>?_⟩⟩;exact(l q (aU f a.size) (by omega) (by omega)).trans (a.block q f)
theorem LE{cs:List Bl}(ao:As w v bs)(t:Am (bs.map BAt.I))(a7:BJ w)(ap:DR w lv cs)(dj:cs.length<=1048576)(a8:∀c∈cs,c.name.size<=1048576/\Ah c.ls)(u:TI (cs.map Bl.I)<=1048576)(r:∀b∈bs,b.ls.length+TI (cs.map Bl.I)<=1048576):Calls prog 63 #[aT #[v],lv] w fun e w'=>ND (D4 0 (bs.map BAt.I) (cs.map Bl.I)) w e w':=by
 obtain⟨va,W,rfl⟩:=ao.1.ae;obtain⟨la,lc,rfl⟩:=ap.1.ae;have dk:∀(a9:Fn) (first ba:Array Value) (w:World),(Instr.makeFunc a9 first ba).run prog w=.ok (.func a9 first ba) w:=fun _ _ _ _=>rfl
 obtain⟨bb,bc,bd,be⟩:=Ho (w:=w) (o1:=aD #[aA va bs.length W] 25) (o2:=aD #[aA aE 0 0] 25) (o3:=aD #[.int .i64 0] 3);have b0:Below w.heap.size w (((w.alloc (aD #[aA va bs.length W] 25)).alloc (aD #[aA aE 0 0] 25)).alloc (aD #[.int .i64 0] 3)):=(((aH w.heap.size w).alloc (aM _) _).alloc (by simp) _).alloc (by simp;omega) _;have bf:=Od (ao.V b0) (Gu t);have co:=Aa a7;have bg:=Aa ap;have cp:=Aa a8;have cq:=Aa t;have cr:=Aa u;have ct:=Aa r;obtain⟨R,aq⟩:∃R,D4 0 (bs.map BAt.I) (cs.map Bl.I)=R:=⟨_,rfl⟩;have cu:=Aa aq;rw[aq];clear aq ao t a7 ap a8 u r;generalize cv:bs.length=bh at *;clear cv;generalize bi:cs.length=nl at *;have X:=Aa bi;clear bi;generalize bj:((w.alloc (aD #[aA va bh W] 25)).alloc (aD #[aA aE 0 0] 25)).alloc (aD #[.int .i64 0] 3)=W0 at *;have bk:=Aa bj;have bl:=Aa bb;clear bj bb;have z0:AA W0 w.heap.size #[aA va bh W] 25:=bc;have bm:AA W0 (w.heap.size+1) #[aA aE 0 0] 25:=bd;have z2:AA W0 (w.heap.size+2) #[.int .i64 0] 3:=be;have bn:=Ab z0 0;simp only[aC,aB]at bn;clear bc bd be;go_enter_defers func63,ntmps63
 go_upto_region 1 with fail
 rw[bk.out];clear bk;go_wp2_with (go_at_call 129;refine bf.mono ?_)
 first | rintro e w1 v1 rfl s I o1 B | rintro e w1 v1 s rfl I o1 B | rintro e w1 ⟨v1,s,rfl,I,o1,B⟩
 obtain⟨a1,Y,rfl,_⟩:=Ak o1.row;have J:Below w1.heap.size w1 (w1.alloc (aD #[aA a1 s.length Y,.int .i64 0] 176)):=(aH _ _).alloc (aM _) _;have ar:=b0.trans (B.mono b0.size);have au:=ar.trans (J.mono ar.size);have bo:=B.size;rw[bl.out]at bo;have bp:Mk (w.heap.size+3) w1.heap.size 0 (w1.alloc (aD #[aA a1 s.length Y,.int .i64 0] 176)) (aA a1 s.length Y) s:=⟨AA.new w1 _ _,bo,(o1.V J).mono (by rw[bl.out];omega),⟨w,co.out,au,by omega⟩⟩;have bq:=(bm.V B).V J;have br:=(z2.V B).V J;have bt:=Aa bp;have bu:=Aa I;have bv:=Aa (show D4 0 (s.map BAt.I) (cs.map Bl.I)=R from by rw[I];exact cu.out);clear bp I o1 B J bf z0 bm z2 bn ar b0;generalize s.length=n1 at *;go_wp2;generalize w1.alloc (aD #[aA a1 n1 Y,.int .i64 0] 176)=W2 at *;generalize w1.heap.size=M at *;go_loopw [16] (fun i wr=>McJ w M cs R i wr) (fun i _=>nl-(intOf i).toNat)
 case atStart =>
  exact⟨0,_,s,0,rfl,Nat.zero_le _,au,bq,br,bt.out,by rw[bu.out];exact cq.out,by rw[aV];exact bv.out,by rw[aV];exact cr.out,by rw[aV];exact Il.2 (by rw[bu.out];exact Il.1 ct.out)⟩
 case round =>
  clear bt bq br au bv;obtain⟨k,dl,y,dm,rfl,dn,n,Z,aa,C,t,D,u,r⟩:=hrel;obtain⟨a,c,rfl,_⟩:=Ak C.own.row;have bw:=n.size;by_cases cw:k<nl
  ·have cx:((k:Int)<(nl:Int)):=by omega
   have dp:(0:Int)<=(k:Int):=by omega
   obtain⟨E,x,F,K,ab⟩:=AS cs k (by rw[X.out];exact cw);obtain⟨g,j,l,m,ev,d⟩:=x;have av:(⟨g,j,l,m,ev,d⟩:Bl)∈cs:=by rw[K];simp
   have ac:An w ev d:=bg.out.2 _ av;obtain⟨ea,ec,rfl⟩:=ac.1.ae;obtain⟨dq,dr,rfl,ad,ae,af,ag,ah⟩:=(show Ap w (aA la nl lc) nl 5 ((E++(⟨g,j,l,m,aA ea d.length ec,d⟩:Bl)::F).flatMap Bl.cells) from by have:=bg.out.1;rw[X.out,K]at this;exact this).change;rw[ab]at ad ae af ag ah;have ds:=(n.cell (aF w _ ad)).trans ad;have dt:=(n.cell (aF w _ ae)).trans ae;have du:=(n.cell (aF w _ af)).trans af;have dv:=(n.cell (aF w _ ag)).trans ag;have dw:=(n.cell (aF w _ ah)).trans ah;have bx:cs.drop k=(⟨g,j,l,m,aA ea d.length ec,d⟩:Bl)::F:=by rw[K,<-ab,bD]
   have bz:cs.drop (k+1)=F:=by rw[K,show k+1=(E++[(⟨g,j,l,m,aA ea d.length ec,d⟩:Bl)]).length by simp[ab],show E++(⟨g,j,l,m,aA ea d.length ec,d⟩:Bl)::F=(E++[⟨g,j,l,m,aA ea d.length ec,d⟩])++F by simp,bD]
   rw[bx]at D u r;rw[bE,QJ]at D;rw[bE,TJ]at u r;have b1:d.length=(Bl.I ⟨g,j,l,m,aA ea d.length ec,d⟩).ac.length:=by unfold Bl.I;simp
   have aw:=cp.out _ av;have b2:∀b∈y,b.ls.length+d.length<=1048576:=fun b n=>by have h1:=r b n;rw[<-b1]at h1;omega
   have cy:=Aa (fun A' (h:C0 (y.map BAt.I) (Bl.I ⟨g,j,l,m,aA ea d.length ec,d⟩)=aI A')=>WT t h);have cz:=Aa (fun A' (h:C0 (y.map BAt.I) (Bl.I ⟨g,j,l,m,aA ea d.length ec,d⟩)=aI A')=>Aat h u (Il.1 r));have c0:=Aa (show TI (F.map Bl.I)<=1048576 from by omega);have c1:=Aa (show ¬EJ (Bl.I ⟨g,j,l,m,aA ea d.length ec,d⟩)->C0 (y.map BAt.I) (Bl.I ⟨g,j,l,m,aA ea d.length ec,d⟩)=aE from fun h=>Ab5 h);have ax:=(aH wr.heap.size wr).alloc (aM _) (aD #[.int .i64 g,aJ j,aJ l,aJ m,aA ea d.length ec] 93);have ai:=C.V ax;obtain⟨ay,b3⟩:=ai.place (k:Int);have b4:=CM (wr.alloc (aD #[.int .i64 g,aJ j,aJ l,aJ m,aA ea d.length ec] 93)) M 1 (.int .i64 (k:Int));have G:=(AA.new wr #[.int .i64 g,aJ j,aJ l,aJ m,aA ea d.length ec] 93).grown b4 (by have:=C.box.lt;omega);have c2:=Ab ai.box 1;have dx:=Ad ai.box 1;have b5:=Ab ay.box 1;have c4:=Ab G 0;have c5:=Ab G 1;have c6:=Ab G 2;have c7:=Ab G 3;have c8:=Ab G 4;simp only[aC,aB,List.getElem?_cons_succ]at c2 b5 c4 c5 c6 c7 c8;have aj:=(ax.mono (show w.heap.size+3<=wr.heap.size from C.size)).trans b3;have az:=n.trans (aj.mono (by omega));have dy:AA _ (w.heap.size+1) #[aA aE 0 0] 25:=(aj.block (w.heap.size+1) (by omega)).trans Z;have dz:AA _ (w.heap.size+2) #[.int .i64 0] 3:=(aj.block (w.heap.size+2) (by omega)).trans aa;have a0:=Abz (M:=M) (p:=(k:Int)) (c:=⟨g,j,l,m,aA ea d.length ec,d⟩) b5 (ac.V az) aw.2.1;have d0:=Aa ac;have b6:=Aa aw;have c9:=Aa b2;have da:=Aa t;have b7:=Aa ay;generalize o:C0 (y.map BAt.I) (Bl.I ⟨g,j,l,m,aA ea d.length ec,d⟩)=O at *;have db:=Aa o;have a2:=Aa D;have a3:=Aa bz;clear o D bx bz u r b1 t ac av K ab ad ae af ag ah aw b2 C ai ay b4 G b3 ax;go_upto_region 7 with fail
   generalize (wr.alloc (aD #[.int .i64 g,aJ j,aJ l,aJ m,aA ea d.length ec] 93)).setCell ⟨M,1,aE⟩ (.int .i64 (k:Int))=d1 at *;go_wp2_with (go_at_call 131;refine a0.mono ?_)
   rintro e u1 ⟨a4,dc⟩;have dd:=b7.out.size;have a5:=aj.trans (a4.mono dd);have b8:=az.trans (a4.mono az.size);rcases dc with ⟨b9,ca,rfl,cb⟩ | ⟨cc,rfl⟩
   ·have ak:=Ab4 (c:=⟨g,j,l,m,ca,d⟩) (b7.out.V a4) da.out b9 cb b6.out.2 b6.out.1 c9.out;rw[show Bl.I ⟨g,j,l,m,ca,d⟩=Bl.I ⟨g,j,l,m,aA ea d.length ec,d⟩ from rfl,db.out]at ak;clear b9 cb a0;go_wp2_with (go_at_call 130;refine ak.mono ?_)
    rintro e u2 ⟨cd,de⟩;have ce:=a5.trans cd;have cf:=b8.trans (cd.mono (by omega));have L:AA u2 (w.heap.size+1) #[aA aE 0 0] 25:=(ce.block (w.heap.size+1) (by omega)).trans Z;have N:AA u2 (w.heap.size+2) #[.int .i64 0] 3:=(ce.block (w.heap.size+2) (by omega)).trans aa;rcases de with ⟨o,rfl⟩ | ⟨A,v',bs',o,rfl,al,cg⟩
    ·have H:=Aa (show R=([],2+(k:Int)) from by rw[<-a2.out,o]);clear ak o;go_wp2;refine leaves_cons (f:=128) (args:=#[aG (aI ⟨w.heap.size+1,0,aE⟩),aG (aI ⟨w.heap.size+1+1,0,aE⟩)]) (by simp) (by simp[go_sem]) ?_;refine(Oe (q:=(k:Int)) (show AA u2 (w.heap.size+1) #[aA aE 0 0] 25 from L) (show AA u2 (w.heap.size+1+1) #[.int .i64 0] 3 from N) (by omega) ⟨by omega,by omega⟩).mono ?_;rintro e md ch P;have Q:=P;obtain⟨rfl,rfl,S,T,_⟩:=P;have U:=Aa (PM (w:=w) cf Q H.out);have v1:=Ab S 0;have v2:=Ab T 0;simp only[aC,aB]at v1 v2;clear Q S T;refine⟨_,?_,U.out⟩;simp[results,results63,go_sem,v1,v2]
    ·have df:=Aa (show McJ w M cs R (.int .i64 ((k+1:Nat):Int)) u2 from⟨k+1,v',bs',(k:Int),rfl,by rw[X.out];omega,cf,L,N,cg,by rw[al];exact cy.out A o,by rw[al,a3.out];have:=a2.out;rw[o]at this;exact this,by rw[a3.out];exact c0.out,by rw[a3.out];exact Il.2 (by rw[al];exact cz.out A o)⟩);clear ak o cg al L N;go_wp2;go_roundw;case rel=>exact df.out
     case measure=>simp[intOf];omega
   ·have H:=Aa (show R=([],2+(k:Int)) from by
     have dg:=c1.out cc;rw[<-a2.out,dg])
    have L:AA u1 (w.heap.size+1) #[aA aE 0 0] 25:=(a5.block (w.heap.size+1) (by omega)).trans Z;have N:AA u1 (w.heap.size+2) #[.int .i64 0] 3:=(a5.block (w.heap.size+2) (by omega)).trans aa;clear a0 cc;go_wp2;refine leaves_cons (f:=128) (args:=#[aG (aI ⟨w.heap.size+1,0,aE⟩),aG (aI ⟨w.heap.size+1+1,0,aE⟩)]) (by simp) (by simp[go_sem]) ?_;refine(Oe (q:=(k:Int)) (show AA u1 (w.heap.size+1) #[aA aE 0 0] 25 from L) (show AA u1 (w.heap.size+1+1) #[.int .i64 0] 3 from N) (by omega) ⟨by omega,by omega⟩).mono ?_;rintro e md ch P;have Q:=P;obtain⟨rfl,rfl,S,T,_⟩:=P;have U:=Aa (PM (w:=w) b8 Q H.out);have v1:=Ab S 0;have v2:=Ab T 0;simp only[aC,aB]at v1 v2;clear Q S T;refine⟨_,?_,U.out⟩;simp[results,results63,go_sem,v1,v2]
  ·have cx:¬((k:Int)<(nl:Int)):=by omega
   have dh:=Ab C.box 0;simp only[aC,aB]at dh;have H:=Aa (show R=(y.map BAt.I,0) from by rw[<-D,List.drop_of_length_le (by rw[X.out];omega)];rfl);have ci:=Aa (C.own);have cj:wr.heap[w.heap.size+1]?=aI (aD #[aA aE 0 0] 25 (0,0)):=Z;clear D u r t;generalize di:y.length=z at *;have V:=Ba wr (w.heap.size+1) #[aA a z c];have ck:AA (wr.setRow (w.heap.size+1) #[aA a z c]) (w.heap.size+1) #[aA a z c] 25:=setRow_heap _ _ _ _ _ _ cj;have am:AA (wr.setRow (w.heap.size+1) #[aA a z c]) (w.heap.size+1+1) #[.int .i64 0] 3:=aa.grown V (by omega);have c3:=Ab am 0;have d2:=Ad am 0;simp only[aC,aB]at c3;have an:=CM (wr.setRow (w.heap.size+1) #[aA a z c]) (w.heap.size+1+1) 0 (.int .i64 0);have cl:=ck.grown an (by omega);have a6:=am.set 0 (.int .i64 0);simp only[aO,aS]at a6;have cm:=Ab cl 0;have cn:=Ab a6 0;simp only[aC,aB]at cm cn;have U:=Aa (show ND R w (aK (aQ #[aT #[aA a z c],.int .i64 0])) ((wr.setRow (w.heap.size+1) #[aA a z c]).setCell ⟨w.heap.size+1+1,0,aE⟩ (.int .i64 0)) from⟨_,y,by rw[H.out],by rw[H.out],((Az.other ci.out V (by omega)).other an (by omega)).mono (by omega),Bh (Bh n bw (by omega) V) (aN bw V.size) (by omega) an⟩);clear V an ck am cl a6 ci di;go_wp2_with (with_reducible show wpList _ _ _ (bF _ (bG _ (aW 4) _) _ _ _ _::_) _ _;refine wpList_store_row rfl 25 _ _ rfl (w.heap.size+1) #[aA a z c] ?_ ?_ 25 _ cj ?_ ?_ ?_ ?_)
   any_goals (first | rfl | exact AB)
   refine leaves_cons (f:=128) (args:=#[aG (aI ⟨w.heap.size+1,0,aE⟩),aG (aI ⟨w.heap.size+1+1,0,aE⟩)]) (by simp) (by simp[go_sem]) ?_;refine(Wy _ _ _).mono ?_;rintro e md ch ⟨rfl,rfl,rfl⟩;refine⟨_,?_,U.out⟩;simp[results,results63,go_sem,cm,cn]
theorem OO{cs:List Bl}(l:As w v bs)(p:Ax bs)(r:BJ w)(s:DR w lv cs)(S:cs.length<=1048576)(A:∀c∈cs,c.name.size<=1048576/\Ah c.ls)(B:TI (cs.map Bl.I)<=1048576)(C:∀b∈bs,b.ls.length+TI (cs.map Bl.I)<=1048576):Calls prog 17 #[aT #[v],lv] w fun e w'=>ND (Fq (bs.map BAt.I) (cs.map Bl.I)) w e w':=by
 obtain⟨va,f,rfl⟩:=l.1.ae;obtain⟨la,lc,rfl⟩:=s.1.ae;have g:Below w.heap.size w ((w.alloc (aD #[aA va bs.length f] 25)).alloc (aD #[aA aE 0 0] 25)):=((aH w.heap.size w).alloc (aM _) _).alloc (by simp) _;have D:((w.alloc (aD #[aA va bs.length f] 25)).alloc (aD #[aA aE 0 0] 25)).heap.size=w.heap.size+2:=by simp
 have E:AA ((w.alloc (aD #[aA va bs.length f] 25)).alloc (aD #[aA aE 0 0] 25)) w.heap.size #[aA va bs.length f] 25:=by
  show ((w.alloc _).alloc _).heap[w.heap.size]?=_
  rw[Cj _ _ _ (by simp),Al]
 have F:AA ((w.alloc (aD #[aA va bs.length f] 25)).alloc (aD #[aA aE 0 0] 25)) (w.heap.size+1) #[aA aE 0 0] 25:=by
  have:=Al (w.alloc (aD #[aA va bs.length f] 25)) (aD #[aA aE 0 0] 25);simpa [AA] using this
 have G:=Cs (l.V g) p (r.V g);have T:=Aa (r.V g);have H:=Aa (l.V g);have aq:=Aa p;have U:=Aa s;have V:=Aa A;have X:=Aa C;have Y:=Aa B;obtain⟨R,t⟩:∃R,Fq (bs.map BAt.I) (cs.map Bl.I)=R:=⟨_,rfl⟩;have I:=Aa t;rw[t];clear r t l p s A C B;generalize J:AJ (bs.map BAt.I)=Z at *;have u:=Aa J;clear J;generalize K:bs.length=aa at *;have ar:=Aa K;clear K;generalize L:cs.length=nl at *;have ab:=Aa L;clear L;generalize M:(w.alloc (aD #[aA va aa f] 25)).alloc (aD #[aA aE 0 0] 25)=W0 at *;have N:=Aa M;have ac:=Aa D;clear M D;have m:=Ab E 0;simp only[aC,aB]at m;go_enter func17,ntmps17;go_upto_region 1 with fail
 rw[N.out];clear N;go_wp2_with (go_at_call 19;refine G.mono ?_)
 first | rintro e w1 rfl a | rintro e w1 ⟨rfl,a⟩
 have au:=(a.cell (aF W0 _ m)).trans m;have x:=F.V a;have ad:=a.size;rw[ac.out]at ad;have d:=g.trans (a.mono g.size);have ae:=Aa (H.out.V a);have af:=Aa (T.out.V a);clear G m E F a g H;cases Z
 ·have O:=Aa (show R=([],1) from by rw[<-I.out];unfold Fq;rw[if_neg (by rw[u.out];simp)]);have n:w1.heap[w.heap.size+1]?=aI (aD #[aA aE 0 0] 25 (0,0)):=x;go_wp2_with (with_reducible show wpList _ _ _ (bF _ (bG _ (aW 4) _) _ _ _ _::_) _ _;refine wpList_store_row rfl 25 _ _ rfl (w.heap.size+1) #[aA aE 0 0] ?_ ?_ 25 _ n ?_ ?_ ?_ ?_)
  all_goals (first | rfl | kernel_rfl | exact AB | skip)
  have z5:(w1.setRow (w.heap.size+1) #[aA aE 0 0]).heap[w.heap.size+1]?=aI (aD #[aA aE 0 0] 25 (0,0)):=setRow_heap _ _ _ _ _ _ x;have i:Below w.heap.size w (w1.setRow (w.heap.size+1) #[aA aE 0 0]):=⟨d.os,d.tape,d.output,by rw[setRow_size];exact d.size,fun k ag=>by rw[setRow_other _ _ _ _ (by omega)];exact d.block k ag⟩;have y:=Ab z5 0;simp only[aC,aB]at y;generalize w1.setRow (w.heap.size+1) #[aA aE 0 0]=W at i y z5⊢;exact bodyPost_ret (v:=aQ #[aT #[aA aE 0 0],.int .i64 1]) (by simp[results,results17,go_sem,y]) rfl ⟨_,[],by rw[O.out],by rw[O.out];rfl,BP _ _,i⟩
 ·have ah:=Aa (show Am (bs.map BAt.I) from A0.1 u.out);have ai:=Aa (show D4 0 (bs.map BAt.I) (cs.map Bl.I)=R from by rw[<-I.out];unfold Fq;rw[if_pos u.out]);have z:=LE ae.out ah.out af.out (U.out.V d) (by rw[ab.out];exact S) V.out Y.out X.out;rw[ai.out]at z;go_wp2_with (go_at_call 63;refine z.mono ?_)
  rintro e o ⟨v5,P,rfl,Q,o5,i⟩;obtain⟨a5,c5,rfl,aj⟩:=Ak o5.row;have z5:=x.V i;have j:=d.trans (i.mono d.size);have ak:=Aa Q;have al:=Aa o5;clear Q o5 i aj z;generalize P.length=h at *;obtain⟨av,am⟩:=R;have n:o.heap[w.heap.size+1]?=aI (aD #[aA aE 0 0] 25 (0,0)):=z5;have an:Below w.heap.size w (o.setRow (w.heap.size+1) #[aA a5 h c5]):=⟨j.os,j.tape,j.output,by rw[setRow_size];exact j.size,fun q ao=>by rw[setRow_other _ _ _ _ (by omega)];exact j.block q ao⟩;go_wp2_with (with_reducible show wpList _ _ _ (bF _ (bG _ (aW 4) _) _ _ _ _::_) _ _;refine wpList_store_row rfl 25 _ _ rfl (w.heap.size+1) #[aA a5 h c5] ?_ ?_ 25 _ n ?_ ?_ ?_ ?_)
  any_goals (first | rfl | exact AB)
  ·first | rfl | kernel_rfl
  have z9:(o.setRow (w.heap.size+1) #[aA a5 h c5]).heap[w.heap.size+1]?=aI (aD #[aA a5 h c5] 25 (0,0)):=setRow_heap _ _ _ _ _ _ n;have v9:=Ab z9 0;simp only[aC,aB]at v9;have ap:=Aa ((al.out.setRow (w.heap.size+1) (by omega) #[aA a5 h c5]).mono (show w.heap.size<=w1.heap.size by omega));generalize o.setRow (w.heap.size+1) #[aA a5 h c5]=aw at *;exact bodyPost_ret (v:=aQ #[aT #[aA a5 h c5],.int .i64 am]) (by simp[results,results17,go_sem,v9]) rfl ⟨_,P,rfl,ak.out,ap.out,an⟩
variable {W' w':World}{v1 v2:Value}
theorem Of:∀(cs:List PChange) (i:Nat) (A:List PBlock),Am A->Am (D4 i A cs).1
 | [],i,A,h=>h
 | c::cs,i,A,h=>by
  unfold D4;cases e:C0 A c with
  | none=>exact Jz
  | some A'=>exact Of cs (i+1) A' (WT h e)
theorem YK(A:List PBlock)(cs:List PChange):Am (Fq A cs).1:=by
 unfold Fq;split
 ·rename_i h;exact Of cs 0 A (A0.1 h)
 ·exact Jz
def ChI(P:List PChange)(TA:List PBlock)(v:Value)(W:World):Prop:=∃cs,cs.map Bl.I=P/\DR W v cs/\ApS TA cs
theorem ChI.V{P:List PChange}(h:ChI P TA v W)(a:Below W.heap.size W W'):ChI P TA v W':=by
 obtain⟨cs,h1,b,c⟩:=h;exact⟨cs,h1,b.V a,c⟩
def Aeg(P:List PChange)(TA:List PBlock)(W:World)(e:Ending)(w':World):Prop:=∃a n c,e=aK (aA a n c)/\ChI P TA (aA a n c) w'/\Below W.heap.size W w'
theorem Ab6{e:Ending}(sa:Ax az)(f:Ax bs)(h:Hv (diffS (az.map BAt.I) (bs.map BAt.I)) W e w'):Aeg (diffS (az.map BAt.I) (bs.map BAt.I)) (az.map BAt.I) W e w':=by
 obtain⟨v,cs,rfl,b,g,_,d,i⟩:=h;obtain⟨a,c,rfl⟩:=d.cin.1.ae;exact⟨a,_,c,rfl,⟨cs,b,d.cin,(Agr b g sa f).1⟩,i⟩
theorem Og{B:List PBlock}(c:BJ W)(h1:Im A v1 W)(d:Im B v2 W):Calls prog 18 #[aT #[v1],aT #[v2]] W fun e w'=>Aeg (diffS A B) A W e w':=by
 obtain⟨az,rfl,f,a⟩:=h1;obtain⟨bs,rfl,i2,b⟩:=d;exact(Sb f i2 a b c).mono fun e w' h=>Ab6 a b h
def Aeh(b:List PBlock × Int)(W:World)(e:Ending)(w':World):Prop:=∃a n c,e=aK (aQ #[aT #[aA a n c],.int .i64 b.2])/\Im b.1 (aA a n c) w'/\Below W.heap.size W w'
theorem Aff{P:List PChange}{e:Ending}(h:ND (Fq A P) W e w'):Aeh (Fq A P) W e w':=by
 obtain⟨v,bs,rfl,b,d,f⟩:=h;obtain⟨a,c,rfl⟩:=d.bin.1.ae;exact⟨a,_,c,rfl,⟨bs,b,d.bin,Gu (by rw[b];exact YK A P)⟩,f⟩
theorem bud{cs:List Bl}(h:ApS (az.map BAt.I) cs):∀b∈az,b.ls.length+TI (cs.map Bl.I)<=1048576:=fun b a=>by
 have:=h.2.2.2 b.I (aR a);simpa [BAt.I] using this
theorem H8{P:List PChange}(b:BJ W)(h1:Im A v W)(c:ChI P A lv W):Calls prog 17 #[aT #[v],lv] W fun e w'=>Aeh (Fq A P) W e w':=by
 obtain⟨az,rfl,d,f⟩:=h1;obtain⟨cs,rfl,i2,a⟩:=c;exact(OO d f b i2 a.1 a.2.1 a.2.2.1 (bud a)).mono fun e w' h=>Aff h
theorem U3{T:List PBlock}(a:BJ W)(h:Im T v W):Calls prog 19 #[aT #[v]] W fun e w'=>e=aK (.bool (AJ T))/\Below W.heap.size W w':=by
 obtain⟨bs,rfl,i,s⟩:=h;exact Cs i s a
theorem UB{T:List PBlock}(a:BJ W)(h:Im T v W):Calls prog 20 #[aT #[v]] W fun e w'=>e=aK (aJ ⟨(printL T).toArray⟩)/\Below W.heap.size W w':=by
 obtain⟨bs,rfl,i,s⟩:=h;exact OP i s a
theorem UC{t:List UInt8}{Q:List PBlock}(b:BJ W)(k:t.length<=20000)(d:Ep t=.good Q):Calls prog 21 #[aJ ⟨t.toArray⟩] W fun e w'=>∃a n c,e=aK (aQ #[aT #[aA a n c],aT #[.int .i64 0,.int .i64 0]])/\Im (Cv Q) (aA a n c) w'/\Below W.heap.size W w':=by
 refine(Ol ⟨t.toArray⟩ (bs:=Q) (by show t.toArray.size<=_;rw[bA];omega) b (by simpa using d)).mono ?_;rintro e w' ⟨a,n,c,f,rfl,g,h,i,l,j⟩;exact⟨a,n,c,rfl,⟨f.map DL.b,g,Oh h,YM (by omega) i⟩,j⟩
theorem boxT(w:World)(x:Value):Below w.heap.size w (w.alloc (aD #[x] 25))/\(w.alloc (aD #[x] 25)).cell? ⟨w.heap.size,0,aE⟩=aI x:=by
 have a:=Ab (Al w (aD #[x] 25)) 0;simp only[aC,aB]at a;exact⟨(aH w.heap.size w).alloc (aM _) (aD #[x] 25),a⟩
def Agu(T:List PBlock)(W:World)(p d:Value)(b:World):Prop:=∃X a n c,p=aG (aI ⟨X,0,aE⟩)/\d=.int .i64 0/\b.cell? ⟨X,0,aE⟩=aI (aA a n c)/\Im T (aA a n c) b/\Below W.heap.size W b
theorem Im.boxT{T:List PBlock}{u:Value}{a:Option Addr}{U:TypeId}(h:Im T v W)(d:AA W X #[aA a n c] U):Im T v (W.setCell ⟨X,0,aE⟩ u):=by
 obtain⟨bs,h1,b,f⟩:=h;exact⟨bs,h1,b.far (Ads d b) ⟨rfl,rfl,rfl,by simp,fun i _ g=>heap_setCell_other W ⟨X,0,aE⟩ i _ (fun e=>g (by simp[e]))⟩,f⟩
theorem Ace{U:World}{T:List PBlock}{a:Option Addr}(d:W.heap.size<=X)(e:Below W.heap.size W U)(b:AA U X #[aA aE 0 0] 25)(f:Im T (aA a n c) U):Agu T W (aG (aI ⟨X,0,aE⟩)) (.int .i64 0) (U.setCell ⟨X,0,aE⟩ (aA a n c)) :=
 ⟨X,a,n,c,rfl,rfl,World.cell?_setCell_same U _ _ ((Ab b 0).trans rfl),f.boxT b,e.setCell d _⟩
theorem YV(a:Option Addr)(L cap:Nat)(w:World)(az:L<=1048576->Code w.heap.size w a L cap)(dd:L<=9223372036854775807)(bq:BJ w):Calls prog 3 #[aA a L cap] w fun e w'=>e=aK (.bool true)/\Below w.heap.size w w':=by
 by_cases cn:L<=1048576
 ·have co:¬(1048576:Int)<(L:Int):=by omega
  have br:=RW a L cap w (az cn);clear az;go_enter func3,ntmps3;go_wp2_with (go_at_call 10;refine br.mono ?_)
  rintro e w1 ⟨sa,h,sc,l,sm,m,TA,g,rfl,⟨bs,bt⟩,v⟩;obtain⟨aq,M,aa⟩:=Afc w1 (aA sa h sc) (aA l sm m);have a0:=v.trans (aq.mono v.size);have a5:=Aa (bs.V aq);have a6:=Aa (bt.V aq);have ST:=Aa (bq.V a0);have I:=Aa a0;have bu:=NT ST.out a5.out a6.out;clear br bs bt aq a0 v bq;generalize cp:w1.heap.size=A at *;generalize bv:(w1.alloc (aD #[aA sa h sc] 25)).alloc (aD #[aA l sm m] 25)=W1 at *;go_wp2_with (go_at_call 11;(try rw[bv]);refine bu.mono ?_)
  rintro e w2 ⟨i,on,j,rfl,IVo,n⟩;obtain⟨a7,N⟩:=boxT w2 (aA i on j);have V:=n.trans (a7.mono n.size)
  have bw:Ss w TA g (Bb TA g) A (A+1) w2.heap.size (aA sa h sc) (aA l sm m) (aA i on j) (w2.alloc (aD #[aA i on j] 25)) :=
   ⟨I.out.trans (V.mono I.out.size),(V.cell (aF _ _ M)).trans M,(V.cell (aF _ _ aa)).trans aa,N,a5.out.V V,a6.out.V V,IVo.V a7,ST.out.V V⟩
  have ab:=Aa bw;clear bu a5 a6 ST I n a7 V bw M aa N IVo cp bv;go_upto_region 5 with fail
  generalize w2.heap.size=C at *;generalize w2.alloc (aD #[aA i on j] 25)=W2 at *;have x:Below W2.heap.size W2 W2.drew:=(aH _ _).drew;have bx:=Wf (ab.out.V x).ia (ab.out.V x).ib;have ah:∀p:{ u:World // Ss w TA g (Bb TA g) A (A+1) C (aA sa h sc) (aA l sm m) (aA i on j) u },p.1.cell? ⟨A,0,aE⟩=aI (aA sa h sc):=fun p=>p.2.ca
  have t2:∀p:{ u:World // Ss w TA g (Bb TA g) A (A+1) C (aA sa h sc) (aA l sm m) (aA i on j) u },p.1.cell? ⟨A+1,0,aE⟩=aI (aA l sm m):=fun p=>p.2.cb
  have t3:∀p:{ u:World // Ss w TA g (Bb TA g) A (A+1) C (aA sa h sc) (aA l sm m) (aA i on j) u },p.1.cell? ⟨C,0,aE⟩=aI (aA i on j):=fun p=>p.2.cc
  haveI:Inhabited { u:World // Ss w TA g (Bb TA g) A (A+1) C (aA sa h sc) (aA l sm m) (aA i on j) u }:=⟨⟨W2,ab.out⟩⟩
  refine AW (S:=Ss w TA g (Bb TA g) A (A+1) C (aA sa h sc) (aA l sm m) (aA i on j)) 5 6 (by kernel_rfl) rfl ?_;refine AF [true,true,true,false,false,false] 3 rfl (by kernel_rfl) (ab.out.V x) ?_;simp only[AU,AV,AR];iterate 3 (refine Av (fun K c=>?_);go_simp;refine c _ ?_;clear c K)
  refine A4 ?_;clear ah t2 t3;refine Ae (f:=2) (rs:=[3]) (by kernel_rfl) (by simp) ?_;refine Af.cons rfl (by decide) (fun K c=>?_) Af.nil;go_simp;go_wp2_with (go_at_call 13;refine bx.mono ?_;rintro e w3 ⟨de,df,dg,rfl,bz,E⟩)
  have ar:=Aa ((ab.out.V x).V E);have O:=H0 ar.out.ic bz rfl;refine c.out _ _ ar.out ?_;clear c K bx bz E ab x;refine Ae (f:=1) (rs:=[4]) (by kernel_rfl) (by simp) ?_;refine Af.cons rfl (by decide) (fun K c=>?_) Af.nil;go_simp;go_wp2_with (go_at_call 12;refine O.mono ?_;rintro e dh ⟨rfl,ac⟩)
  have P:=Aa (ar.out.V ac);refine c.out _ _ P.out ?_;clear c K O ac ar;refine AK (by kernel_rfl) rfl (by kernel_rfl) ?_;intro K c;go_simp;refine c.out _ _ (aL ?_);clear c K;have M:=P.out.ca;have F:=Lu P.out.ia;cases ai:AJ TA
  ·rw[ai]at F;obtain rfl:on=0:=by rw[P.out.ic.len];unfold Bb;rw[if_neg (by rw[ai];simp)];rfl
   go_wp2_with (go_at_call 14;refine F.mono ?_)
   first | rintro e a8 rfl G | rintro e a8 ⟨rfl,G⟩
   have y:=P.out.V G;have N:=y.cc;have J:=Aa y.bw;clear F P G M y;go_wp2;go_ret;exact⟨rfl,J.out⟩
  ·rw[ai]at F;go_wp2_with (go_at_call 14;refine F.mono ?_)
   first | rintro e a8 rfl G | rintro e a8 ⟨rfl,G⟩
   have y:=Aa (P.out.V G);have aa:=y.out.cb;have ad:=Lu y.out.ib;clear F P G M;cases aj:AJ g
   ·rw[aj]at ad;obtain rfl:on=0:=by rw[y.out.ic.len];unfold Bb;rw[if_neg (by rw[aj];simp)];rfl
    go_wp2_with (go_at_call 14;refine ad.mono ?_)
    first | rintro e W rfl H | rintro e W ⟨rfl,H⟩
    have o:=y.out.V H;have N:=o.cc;have J:=Aa o.bw;clear ad y H aa o;go_wp2;go_ret;exact⟨rfl,J.out⟩
   ·rw[aj]at ad;go_wp2_with (go_at_call 14;refine ad.mono ?_)
    first | rintro e W rfl H | rintro e W ⟨rfl,H⟩
    have o:=Aa (y.out.V H);have ak:=A0.1 ai;have au:=A0.1 aj;have a9:=o.out.ia.len;have ba:=o.out.ib.len;have av:=o.out.ic.len;have di:=o.out.ia.few;have dj:=o.out.ib.few;have dk:(h:Int)<=1048576:=by omega
    have dl:(sm:Int)<=1048576:=by omega
    have M:=o.out.ca;have cq:=o.out.cb;have N:=o.out.cc;clear ad y H aa ai aj;by_cases ae:0<h+sm/\on=0
    ·obtain⟨h1,rfl⟩:=ae;have dm:=Acb ak au (by omega) av.symm;have dn:(0:Int)<(h:Int)+(sm:Int):=by omega
     have dp:(60:Int)<(h:Int)+(sm:Int):=by omega
     have J:=Aa o.out.bw;clear o a9 ba av ak au;go_wp2;go_ret;exact⟨rfl,J.out⟩
    ·have b0:=Ad2 (a:=TA) (b:=g) (by rw[<-a9,<-ba,<-av];exact ae);have al:=Aa (Acd ak au b0);have b1:=Aa ak;clear a9 ba av ak au b0;by_cases dq:0<h+sm
     case' pos =>
      have cr:(0:Int)<(h:Int)+(sm:Int):=by omega
      have dr:((on:Int)==0)=false:=by rw[beq_eq_false_iff_ne];omega
      go_upto_region 11 with fail
     case' neg =>
      have cr:¬(0:Int)<(h:Int)+(sm:Int):=by omega
      go_upto_region 11 with fail
     all_goals
      clear M cq N;have x:Below W.heap.size W W.drew:=(aH _ _).drew;have af:=Aa (o.out.V x);have ah:∀p:{ u:World // Ss w TA g (Bb TA g) A (A+1) C (aA sa h sc) (aA l sm m) (aA i on j) u },p.1.cell? ⟨A,0,aE⟩=aI (aA sa h sc):=fun p=>p.2.ca
      have t2:∀p:{ u:World // Ss w TA g (Bb TA g) A (A+1) C (aA sa h sc) (aA l sm m) (aA i on j) u },p.1.cell? ⟨A+1,0,aE⟩=aI (aA l sm m):=fun p=>p.2.cb
      have t3:∀p:{ u:World // Ss w TA g (Bb TA g) A (A+1) C (aA sa h sc) (aA l sm m) (aA i on j) u },p.1.cell? ⟨C,0,aE⟩=aI (aA i on j):=fun p=>p.2.cc
      haveI:Inhabited { u:World // Ss w TA g (Bb TA g) A (A+1) C (aA sa h sc) (aA l sm m) (aA i on j) u }:=⟨⟨W.drew,af.out⟩⟩
      refine AW (S:=Ss w TA g (Bb TA g) A (A+1) C (aA sa h sc) (aA l sm m) (aA i on j)) 17 18 (by kernel_rfl) rfl ?_;refine AF [true,false,true,false,true,false,false,false,false,false,false,false,false,false,false,false,false,false] 15 rfl (by kernel_rfl) af.out ?_;simp only[AU,AV,AR];iterate 3 (refine Av (fun K c=>?_);go_simp;refine c _ ?_;clear c K)
      refine A4 ?_;have r:=FG af.out.st af.out.ic;refine Ae (f:=14) (rs:=[1]) (by kernel_rfl) (by simp) ?_;refine Af.cons rfl (by decide) (fun K c=>?_) Af.nil;go_simp;go_wp2_with (go_at_call 15;refine r.mono ?_;rintro e v1 ⟨a1,n1,ds,rfl,b2,v⟩)
      have I:=Aa (af.out.V v);have b3:=Aa b2;have z:=FG I.out.st I.out.ia;refine c.out _ _ I.out ?_;clear c K r b2 v;refine Ae (f:=13) (rs:=[3]) (by kernel_rfl) (by simp) ?_;refine Af.cons rfl (by decide) (fun K c=>?_) Af.nil;go_simp;go_wp2_with (go_at_call 15;refine z.mono ?_;rintro e v2 ⟨a2,n2,c2,rfl,b4,n⟩)
      have am:=Aa (I.out.V n);have b5:=Aa (b3.out.V n);have r:=NT am.out.st b4 am.out.ib;refine c.out _ _ am.out ?_;clear c K z b4 n I b3;refine Ae (f:=12) (rs:=[5]) (by kernel_rfl) (by simp) ?_;refine Af.cons rfl (by decide) (fun K c=>?_) Af.nil;go_simp;go_wp2_with (go_at_call 11;refine r.mono ?_;rintro e v3 ⟨a3,dt,c3,rfl,b6,E⟩)
      have aw:=Aa (am.out.V E);have b7:=Aa (b5.out.V E);have z:=FG aw.out.st b6;refine c.out _ _ aw.out ?_;clear c K r b6 E am b5;refine Ae (f:=11) (rs:=[6]) (by kernel_rfl) (by simp) ?_;refine Af.cons rfl (by decide) (fun K c=>?_) Af.nil;go_simp;go_wp2_with (go_at_call 15;refine z.mono ?_;rintro e v4 ⟨a4,du,c4,rfl,b8,ac⟩)
      have bb:=Aa (aw.out.V ac);have r:=H0 (b7.out.V ac) b8 al.out.2.1;refine c.out _ _ bb.out ?_;clear c K z b8 ac aw b7;refine Ae (f:=10) (rs:=[7]) (by kernel_rfl) (by simp) ?_;refine Af.cons rfl (by decide) (fun K c=>?_) Af.nil;go_simp;go_wp2_with (go_at_call 12;refine r.mono ?_;rintro e v5 ⟨rfl,G⟩)
      have R:=Aa (bb.out.V G);refine c.out _ _ R.out ?_;clear c K r G bb;refine Ae (f:=9) (rs:=[8]) (by kernel_rfl) (by simp) ?_;refine Af.cons rfl (by decide) (fun K c=>?_) Af.nil;go_simp;refine c.out _ _ R.out ?_;clear c K;refine Ae (f:=8) (rs:=[9]) (by kernel_rfl) (by simp) ?_;refine Af.cons rfl (by decide) (fun K c=>?_) Af.nil;go_simp;refine c.out _ _ R.out ?_;clear c K;refine AF [false,false,false,false,false,false,false,false,false,false,true,false,false,true,false,false,false,false] 6 rfl (by kernel_rfl) R.out ?_;simp only[AU,AV,AR];iterate 2 (refine Av (fun K c=>?_);go_simp;refine c _ ?_;clear c K)
      refine A4 ?_;clear ah t2 t3;have r:=WH R.out.st R.out.ic;refine Ae (f:=5) (rs:=[11]) (by kernel_rfl) (by simp) ?_;refine Af.cons rfl (by decide) (fun K c=>?_) Af.nil;go_simp;go_wp2_with (go_at_call 16;refine r.mono ?_;rintro e dv ⟨dw,dx,dy,rfl,b9,H⟩)
      have ax:=Aa (R.out.V H);have z:=FG ax.out.st b9;refine c.out _ _ ax.out ?_;clear c K r b9 H R;refine Ae (f:=4) (rs:=[12]) (by kernel_rfl) (by simp) ?_;refine Af.cons rfl (by decide) (fun K c=>?_) Af.nil;go_simp;go_wp2_with (go_at_call 15;refine z.mono ?_;rintro e dz ⟨d0,d1,d2,rfl,ca,cb⟩)
      have an:=Aa (ax.out.V cb);have cc:=Aa ca;have r:=FG an.out.st an.out.ic;refine c.out _ _ an.out ?_;clear c K z ca cb ax;refine Ae (f:=3) (rs:=[14]) (by kernel_rfl) (by simp) ?_;refine Af.cons rfl (by decide) (fun K c=>?_) Af.nil;go_simp;go_wp2_with (go_at_call 15;refine r.mono ?_;rintro e d3 ⟨d4,d5,d6,rfl,cd,bc⟩)
      have bd:=Aa (an.out.V bc);have z:=H0 (cc.out.V bc) cd al.out.2.2;refine c.out _ _ bd.out ?_;clear c K r cd bc an cc;refine Ae (f:=2) (rs:=[15]) (by kernel_rfl) (by simp) ?_;refine Af.cons rfl (by decide) (fun K c=>?_) Af.nil;go_simp;go_wp2_with (go_at_call 12;refine z.mono ?_;rintro e v9 ⟨rfl,ce⟩)
      have Y:=Aa (bd.out.V ce);refine c.out _ _ Y.out ?_;clear c K z ce bd;refine Ae (f:=1) (rs:=[16]) (by kernel_rfl) (by simp) ?_;refine Af.cons rfl (by decide) (fun K c=>?_) Af.nil;go_simp;refine c.out _ _ Y.out ?_;clear c K;refine AK (by kernel_rfl) rfl (by kernel_rfl) ?_;intro K c;go_simp;refine c.out _ _ (aL ?_);clear c K o af x;go_upto_region 13 with fail
      go_cut [6,7] from 80 to 87 (fun p d cs=>Agu (Bb TA g) v9 p d cs)
      case first =>
       have be:=Aa (Wk b1.out al.out.1);have x:Below v9.heap.size v9 v9.drew:=(aH _ _).drew;have Z:=Aa (Y.out.V x);have ah:∀p:{ u:World // Ss w TA g (Bb TA g) A (A+1) C (aA sa h sc) (aA l sm m) (aA i on j) u },p.1.cell? ⟨A,0,aE⟩=aI (aA sa h sc):=fun p=>p.2.ca
       have t3:∀p:{ u:World // Ss w TA g (Bb TA g) A (A+1) C (aA sa h sc) (aA l sm m) (aA i on j) u },p.1.cell? ⟨C,0,aE⟩=aI (aA i on j):=fun p=>p.2.cc
       haveI:Inhabited { u:World // Ss w TA g (Bb TA g) A (A+1) C (aA sa h sc) (aA l sm m) (aA i on j) u }:=⟨⟨v9.drew,Z.out⟩⟩
       refine AW (S:=Ss w TA g (Bb TA g) A (A+1) C (aA sa h sc) (aA l sm m) (aA i on j)) 10 11 (by kernel_rfl) rfl ?_;refine AF [true,true,true,false,false,false,false,false,false,false,false] 8 rfl (by kernel_rfl) Z.out ?_;simp only[AU,AV,AR];iterate 3 (refine Av (fun K c=>?_);go_simp;refine c _ ?_;clear c K)
       refine A4 ?_;clear ah t3;refine Ae (f:=7) (rs:=[3,8]) (by kernel_rfl) (by simp) ?_;refine Af.cons rfl (by decide) (fun K c=>?_) (Af.cons rfl (by decide) (fun K c=>?_) Af.nil)
       ·have ao:=Og Z.out.st Z.out.ia Z.out.ic;go_simp;go_wp2_with (go_at_call 18;refine ao.mono ?_;rintro e u1 ⟨la,ct,lc,rfl,ay,v⟩)
        have q:=Aa (Z.out.V v);have B:=x.trans v;refine c.out _ _ q.out ?_;clear c K ao;refine Ae (f:=6) (rs:=[4,8]) (by kernel_rfl) (by simp) ?_;refine Af.cons rfl (by decide) (fun K c=>?_) (Af.cons rfl (by decide) (fun K c=>?_) Af.nil)
        ·have s:=H8 q.out.st q.out.ia ay;rw[be.out]at s;go_simp;go_wp2_with (go_at_call 17;refine s.mono ?_;rintro e u2 ⟨xa,xn,xc,rfl,T,n⟩)
         have k:=Aa (q.out.V n);have ap:=B.trans (n.mono B.size);refine c.out _ _ k.out ?_;clear c K s;refine AF [false,false,false,false,false,true,true,true,false,false,false] 3 rfl (by kernel_rfl) k.out ?_;simp only[AU,AV,AR];iterate 3 (refine Av (fun K c=>?_);go_simp;refine c _ ?_;clear c K)
         refine A4 ?_;refine Ae (f:=2) (rs:=[8]) (by kernel_rfl) (by simp) ?_;refine Af.cons rfl (by decide) (fun K c=>?_) Af.nil;go_simp;obtain⟨U,_⟩:=boxT u2 (aA aE 0 0);refine c.out _ _ (k.out.V U) ?_;clear c K;refine Ae (f:=1) (rs:=[9]) (by kernel_rfl) (by simp) ?_;refine Af.cons rfl (by decide) (fun K c=>?_) Af.nil;go_simp;obtain⟨bf,c4⟩:=boxT u2 (aA xa xn xc);refine c.out _ _ (k.out.V bf) ?_;clear c K;refine AK (by kernel_rfl) rfl (by kernel_rfl) ?_;intro K c;go_simp;refine c.out _ _ (aL ?_);clear c K;go_wp2_with fail
         go_meet;exact⟨u2.heap.size,xa,xn,xc,rfl,rfl,c4,T.V bf,ap.trans (bf.mono ap.size)⟩
        ·go_simp;obtain⟨U,_⟩:=boxT u1 (aA aE 0 0);have k:=Aa (q.out.V U);have ap:=B.trans (U.mono B.size);refine c.out _ _ k.out ?_;clear c K;have z3:AA (u1.alloc (aD #[aA aE 0 0] 25)) u1.heap.size #[aA aE 0 0] 25:=Al u1 _;have s:=H8 k.out.st k.out.ia (ay.V U);rw[be.out]at s;refine Ae (f:=5) (rs:=[4]) (by kernel_rfl) (by simp) ?_;refine Af.cons rfl (by decide) (fun K c=>?_) Af.nil;go_simp;go_wp2_with (go_at_call 17;refine s.mono ?_;rintro e u2 ⟨xa,xn,xc,rfl,T,n⟩)
         have D:=Aa (k.out.V n);refine c.out _ _ D.out ?_;clear c K s;have z4:AA u2 u1.heap.size #[aA aE 0 0] 25:=(n.block _ (by simp)).trans z3;have cf:=ap.trans (n.mono ap.size);have bg:=Aa (Ace B.size cf z4 T);refine AF [false,false,false,false,false,true,true,true,false,false,false] 2 rfl (by kernel_rfl) D.out ?_;simp only[AU,AV,AR];iterate 3 (refine Av (fun K c=>?_);go_simp;refine c _ ?_;clear c K)
         refine A4 ?_;have bh:=Ab z4 0;have cu:=Ad z4 0;simp only[aC,aB]at bh;refine Ae (f:=1) (rs:=[9]) (by kernel_rfl) (by simp) ?_;refine Af.cons rfl (by decide) (fun K c=>?_) Af.nil;go_simp;refine c.out _ _ (Y.out.V (cf.setCell B.size _)) ?_;clear c K;refine AK (by kernel_rfl) rfl (by kernel_rfl) ?_;intro K c;go_simp;refine c.out _ _ (aL ?_);clear c K;go_wp2_with fail
         go_meet;exact bg.out
       ·go_simp;obtain⟨U,_⟩:=boxT v9.drew (aA aE 0 0);have q:=Aa (Z.out.V U);have B:=x.trans U;refine c.out _ _ q.out ?_;clear c K;have z3:AA (v9.drew.alloc (aD #[aA aE 0 0] 25)) v9.heap.size #[aA aE 0 0] 25:=Al v9.drew _;have ao:=Og q.out.st q.out.ia q.out.ic;refine Ae (f:=6) (rs:=[3]) (by kernel_rfl) (by simp) ?_;refine Af.cons rfl (by decide) (fun K c=>?_) Af.nil;go_simp;go_wp2_with (go_at_call 18;refine ao.mono ?_;rintro e u1 ⟨la,ct,lc,rfl,ay,v⟩)
        have k:=Aa (q.out.V v);refine c.out _ _ k.out ?_;clear c K ao;have s:=H8 k.out.st k.out.ia ay;rw[be.out]at s;refine Ae (f:=5) (rs:=[4]) (by kernel_rfl) (by simp) ?_;refine Af.cons rfl (by decide) (fun K c=>?_) Af.nil;go_simp;go_wp2_with (go_at_call 17;refine s.mono ?_;rintro e u2 ⟨xa,xn,xc,rfl,T,n⟩)
        have D:=Aa (k.out.V n);refine c.out _ _ D.out ?_;clear c K s;have E:=v.trans (n.mono v.size);have z4:AA u2 v9.heap.size #[aA aE 0 0] 25:=(E.block _ (by simp)).trans z3;have bg:=Aa (Ace (aM _) (B.trans (E.mono B.size)) z4 T);refine AF [false,false,false,false,false,true,true,true,false,false,false] 2 rfl (by kernel_rfl) D.out ?_;simp only[AU,AV,AR];iterate 3 (refine Av (fun K c=>?_);go_simp;refine c _ ?_;clear c K)
        refine A4 ?_;have bh:=Ab z4 0;have cu:=Ad z4 0;simp only[aC,aB]at bh;refine Ae (f:=1) (rs:=[9]) (by kernel_rfl) (by simp) ?_;refine Af.cons rfl (by decide) (fun K c=>?_) Af.nil;go_simp;refine c.out _ _ (Y.out.V ((B.trans (E.mono B.size)).setCell (aM _) _)) ?_;clear c K;refine AK (by kernel_rfl) rfl (by kernel_rfl) ?_;intro K c;go_simp;refine c.out _ _ (aL ?_);clear c K;go_wp2_with fail
        go_meet;exact bg.out
      case rest =>
       obtain⟨cg,cv⟩:∃cg,cg=wc:=⟨_,rfl⟩;subst cv;obtain⟨X,xa,xn,xc,rfl,rfl,cw,T,bk⟩:=hcut;have q:=Aa (Y.out.V bk);have O:=H0 T q.out.ic rfl;have N:=q.out.cc;have ch:=Aa (A0.2 al.out.1);clear Y T bk al b1;go_wp2_with (go_at_call 12;refine O.mono ?_)
       first | rintro e cx rfl bi | rintro e cx ⟨rfl,bi⟩
       have k:=Aa (q.out.V bi);have F:=U3 k.out.st k.out.ic;rw[ch.out]at F;have cy:=k.out.cc;clear O q bi cw N;go_wp2_with (go_at_call 19;refine F.mono ?_)
       first | rintro e cz rfl bj | rintro e cz ⟨rfl,bj⟩
       have D:=Aa (k.out.V bj);have s:=UB D.out.st D.out.ic;obtain⟨Q,ci,cj,c0⟩:=Sp (Bb TA g);have c1:=Aa ci;have c5:=Aa cj;have c6:=D.out.cc;clear F k bj cy ch ci cj;generalize printL (Bb TA g)=t at *;have d7:(⟨t.toArray⟩:ByteArray).size<=1048576:=by show t.toArray.size<=1048576;rw[bA];omega
       go_wp2_with (go_at_call 20;refine s.mono ?_)
       first | rintro e c7 rfl bl | rintro e c7 ⟨rfl,bl⟩
       have bm:=Aa (D.out.V bl);have ck:=UC bm.out.st c0 c1.out;clear s D bl c6;go_wp2_with (go_at_call 21;refine ck.mono ?_)
       rintro e c8 ⟨c9,yn,yc,rfl,cl,cm⟩;obtain⟨bn,da,d8⟩:=Ad1 c8 (aA c9 yn yc);have ag:=Aa ((bm.out.V cm).V bn);have bo:=Aa (cl.V bn);have db:=ag.out.cc;clear ck bm cl cm bn;by_cases ae:t=[]
       ·subst ae;have J:=Aa ag.out.bw;clear ag bo;go_wp2;go_ret;exact⟨rfl,J.out⟩
       ·have d9:t.isEmpty=false:=by cases t with | nil=>exact absurd rfl ae | cons _ _=>rfl
        have O:=H0 bo.out ag.out.ic (c5.out ae);go_wp2_with (go_at_call 12;refine O.mono ?_)
        first | rintro e dc rfl bp | rintro e dc ⟨rfl,bp⟩
        have J:=Aa (ag.out.V bp).bw;clear O ag bo bp db da;go_wp2;go_ret;exact⟨rfl,J.out⟩
 ·have co:(1048576:Int)<(L:Int):=by omega
  clear az;go_enter func3,ntmps3;go_wp2;go_ret;exact⟨rfl,aH _ _⟩
