import Derived.Test.YtpdahhnjhggocaaGreatDoorMz30
import Derived.Lib.IndexLaws
import Derived.Shelf.RegionOpenPlain
import Derived.Shelf.Strconv.Clone
import Derived.Shelf.Strings.Builder1
import Derived.Shelf.Strings.Search2
import Derived.Shelf.Strings.Trim
namespace Go.Proofs.YtpdahhnjhggocaaGreatDoor
open Go.RowKit
set_option maxHeartbeats 16000000
set_option maxRecDepth 100000
variable {bs D T:List BAt}{kind name:ByteArray}{v:Value}{w:World}
def Fh(bs:List PBlock)(kind name:ByteArray):Int:=match bs.findIdx? (Bc kind name) with
 | none=>-1
 | some j=>(j:Int)
def Gs(bs:List BAt)(kind name:ByteArray)(e:Ending):Prop:=e=.returned (.int .i64 (Fh (bs.map BAt.plain) kind name))
theorem Ab8(h:(bs.map BAt.plain).find? (Bc kind name)=none):Gs bs kind name (.returned (.int .i64 (-1))):=by
 have:(bs.map BAt.plain).findIdx? (Bc kind name)=none:=by
  rw[List.findIdx?_eq_none_iff];intro x hx;have:=List.find?_eq_none.1 h x hx;simpa using this
 unfold Gs Fh;rw[this]
theorem Ad3{x:BAt}(h:Db (D.map BAt.plain++x.plain::T.map BAt.plain) kind name (D.map BAt.plain).length)(hx:Bc kind name x.plain=true):Gs (D++x::T) kind name (.returned (.int .i64 (D.length:Int))):=by
 have hn:(D.map BAt.plain).findIdx? (Bc kind name)=none:=by
  rw[List.findIdx?_eq_none_iff];intro y hy;unfold Db at h;rw[List.take_append_of_le_length (Nat.le_refl _),List.take_length]at h;exact h y hy
 have:((D++x::T).map BAt.plain).findIdx? (Bc kind name)=some D.length:=by
  rw[List.map_append,List.map_cons,List.findIdx?_append,hn,List.findIdx?_cons,if_pos hx];simp
 unfold Gs Fh;rw[this]
theorem Gt(kind name:ByteArray)(h:Aw w v bs)(hl:bs.length≤1048576):Calls Tryz.prog 52 #[.agg #[v],.string kind,.string name] w fun e w'=>Gs bs kind name e∧Below w.heap.size w w':=by
 obtain⟨ao,cap,rfl⟩:=h.1.form;have G:=(Below.refl w.heap.size w).alloc (Nat.le_refl _) (.cells #[.slice ao bs.length cap] 25);have k0:=Bg (w:=w) (cs:=#[.slice ao bs.length cap]) (T:=25) 0;simp only[List.getElem?_toArray,List.getElem?_cons_zero]at k0;have h1:=h.below G;clear h;generalize hn:bs.length=n at *;have en:=Aa hn;clear hn;go_enter Tryz.func52,Tryz.ntmps52;go_wp2;go_loop [7] (fun i=>∃ j:Nat,j≤n∧i=.int .i64 (j:Int)∧Db (bs.map BAt.plain) kind name j) (fun i=>n - (intOf i).toNat)
 case atStart=>exact⟨0,by omega,rfl,Db.zero _ _ _⟩
 case round =>
  obtain⟨j,hj,rfl,hA⟩:=hrel;by_cases hlt:j<n
  ·obtain⟨D,x,T,rfl,hD⟩:=Br bs j (by have:=en.out;omega);obtain⟨g,off,rfl,c1,c2,c3⟩:=h1.1.block;have hA2:Db (D.map BAt.plain++x.plain::T.map BAt.plain) kind name (D.map BAt.plain).length:=by rw[List.length_map,hD];simpa using hA
   have hyes:=Aa (show Bc kind name x.plain=true→Gs (D++x::T) kind name (.returned (.int .i64 (j:Int))) from fun hh=>by rw[← hD];exact Ad3 hA2 hh);have hno:=Aa (show Bc kind name x.plain=false→Db ((D++x::T).map BAt.plain) kind name (j+1) from fun hh=>by have:=hA2.succ hh;rw[List.length_map,hD]at this;simpa using this);rw[hD]at c1 c2 c3;have hd:Bc kind name x.plain=((x.kind.toList == kind.toList) && (x.name.toList == name.toList)):=rfl;rw[hd]at hyes hno;have hB0:(0:Int)≤(j:Int):=by omega
   have hB1:(j:Int)<(n:Int):=by omega
   clear h1 hA hA2 hd hD en;generalize x.kind=xk at *;generalize x.name=xn at *;cases h1:(xk.toList == kind.toList)
   ·have HN:=Aa (hno.out (by rw[h1];rfl));clear hyes hno;go_wp2;go_round
    case rel=>exact⟨j+1,by omega,by go_num,HN.out⟩
    case measure=>simp[intOf];omega
   ·cases h2:(xn.toList == name.toList)
    ·have HN:=Aa (hno.out (by rw[h1,h2];rfl));clear hyes hno;go_wp2;go_round
     case rel=>exact⟨j+1,by omega,by go_num,HN.out⟩
     case measure=>simp[intOf];omega
    ·have HN:=Aa (hyes.out (by rw[h1,h2];rfl));clear hyes hno;go_wp2;go_ret;exact⟨HN.out,G⟩
  ·obtain rfl:j=n:=by omega
   have HN:=Aa (show Gs bs kind name (.returned (.int .i64 (-1))) from Ab8 (Db.none (by rw[List.length_map,en.out];exact hA)));clear h1 hA;go_wp2;go_ret;exact⟨HN.out,G⟩
variable {B:Nat}{wc w2 w3 w':World}{vk v2 v3:Value}{A:List PBlock}
theorem Zm{cs:List A6}(h:∀ x∈cs,∃ a n c,x.v=.slice a n c):∀ u∈cs.flatMap A6.cells,u.oneCell'=true:=by
 intro u hu;obtain⟨x,hx,hu⟩:=List.mem_flatMap.1 hu;obtain⟨a,n,c,e⟩:=h x hx;unfold A6.cells at hu;rw[e]at hu;simp at hu;rcases hu with rfl | rfl | rfl | rfl | rfl <;> rfl
theorem T5{done new:List A6}(hm:Bv B wc vk done)(hB:B≤wc.heap.size)(o2:Bv wc.heap.size w2 v2 new)(b2:Below wc.heap.size wc w2)
  (hown3:w3.ownsRow B 93 5 v3 (done.length+new.length) (done.flatMap A6.cells++new.flatMap A6.cells)) (hgrow:w2.grownBy w3 vk.ownBlock) (hv:v3.ownBlock=vk.ownBlock∨v3.ownBlock=some w2.heap.size) :
  Bv B w3 v3 (done++new)∧Below B wc w3:=by
 have m2:A8 B w2 (D9 v2 new++D9 vk done):=A8.join hm o2 b2 hB;have m3:A8 B w2 (⟨vk,93,5,done.length,done.flatMap A6.cells⟩::(done.flatMap A6.rows++D9 v2 new)):=m2.perm (by
  unfold D9;exact List.perm_append_comm)
 have m5:=m3.grow (r':=⟨v3,93,5,done.length+new.length,done.flatMap A6.cells++new.flatMap A6.cells⟩) hown3 hgrow hv;have m6:A8 B w3 (⟨v2,93,5,new.length,new.flatMap A6.cells⟩::⟨v3,93,5,done.length+new.length,done.flatMap A6.cells++new.flatMap A6.cells⟩::(done.flatMap A6.rows++new.flatMap A6.rows)):=m5.perm (by
  unfold D9;exact(List.perm_middle.cons _).trans (List.Perm.swap _ _ _))
 refine⟨?_,?_⟩
 ·unfold Bv D9;rw[List.flatMap_append,List.flatMap_append,List.length_append];exact m6.tail
 ·exact(b2.mono hB).grown hgrow (Nat.le_trans hB b2.size) (fun k hk=>(A8.lt m3 (List.mem_cons_self ..) hk).1)
theorem Nr(B:Nat)(w:World):A3 B w (.slice none 0 0) []:=⟨fun r hr=>by rw[List.mem_singleton.1 hr];exact World.ownsRow_nil _ _ 115 2,by simp[Dr]⟩
theorem Ft{bs:List PBlock}{kind name:ByteArray}:Fh bs kind name<0↔bs.find? (Bc kind name)=none:=by
 unfold Fh;cases h:bs.findIdx? (Bc kind name) with
 | none =>
  refine⟨fun _=>?_,fun _=>by decide⟩;rw[List.find?_eq_none];intro x hx;have:=List.findIdx?_eq_none_iff.1 h x hx;simp[this]
 | some j =>
  refine⟨fun h2=>absurd h2 (by simp),fun h2=>?_⟩;obtain⟨hj,he,_⟩:=List.findIdx?_eq_some_iff_getElem.1 h;exact absurd he (List.find?_eq_none.1 h2 _ (List.getElem_mem hj))
theorem Fy{bs:List PBlock}{kind name:ByteArray}(h:¬ Fh bs kind name<0):∃ j:Nat,∃ hj:j<bs.length,Fh bs kind name=(j:Int)∧bs.find? (Bc kind name)=some bs[j]:=by
 unfold Fh at h ⊢;cases he:bs.findIdx? (Bc kind name) with
 | none=>rw[he]at h;exact absurd (by decide) h
 | some j =>
  obtain⟨hj,h1,h2⟩:=List.findIdx?_eq_some_iff_getElem.1 he;refine⟨j,hj,rfl,?_⟩;rw[List.find?_eq_some_iff_getElem];exact⟨h1,j,hj,rfl,fun k hk=>by have:=h2 k hk;simpa using this⟩
theorem Qm{B:List PBlock}{D T:List PBlock}{x:PBlock}(e:A=D++x::T):goneS (A.take (D.length+1)) B=goneS (A.take D.length) B++(if (B.find? (Bc x.kind x.name)).isNone=true then [Hm x] else []):=by
 subst e;rw[Cq,Ch];unfold goneS;rw[List.filter_append,List.map_append];congr 1;by_cases h:(B.find? (Bc x.kind x.name)).isNone=true
 ·rw[if_pos h];simp[h]
 ·rw[if_neg h];simp[h]
theorem Agi{row:Option Nat}(h:w.drew.grownBy w' row):w.grownBy w' row:=⟨h.os,h.tape,h.output,h.size,h.block⟩
variable {va vb:Value}{az:List BAt}
def Gi(P:List PChange)(w:World)(e:Ending)(w':World):Prop:=∃ v' cs',e=.returned v'∧cs'.map A6.plain=P∧(∀ c∈cs',Ae c.ls)∧cs'.length≤14000000∧Bv w.heap.size w' v' cs'∧Below w.heap.size w w'
def Agj(B:Nat)(w2:World)(A Q:List PBlock)(na:Nat)(out i:Value)(wr:World):Prop:=∃(k:Nat) (cs:List A6),i=.int .i64 (k:Int)∧k≤na∧cs.map A6.plain=goneS (A.take k) Q∧(∀ c∈cs,Ae c.ls)∧cs.length≤k∧Bv B wr out cs∧Below B w2 wr
def Agk(B:Nat)(w2:World)(A Q:List PBlock)(na nb:Nat)(out i:Value)(wr:World):Prop:=∃(k:Nat) (cs:List A6),i=.int .i64 (k:Int)∧k≤nb∧cs.map A6.plain=goneS A Q++(Q.take k).flatMap (Ed A)∧(∀ c∈cs,Ae c.ls)∧cs.length≤na+12 * k∧Bv B wr out cs∧Below B w2 wr
theorem Mj(ha:Aw w va az)(hb:Aw w vb bs)(sa:A2 az)(sb:A2 bs):Calls Tryz.prog 36 #[.agg #[va],.agg #[vb]] w fun e w'=>Gi (diffS (az.map BAt.plain) (bs.map BAt.plain)) w e w':=by
 obtain⟨aa,ac,rfl⟩:=ha.1.form;obtain⟨ba,bc,rfl⟩:=hb.1.form;have G:Below w.heap.size w ((w.alloc (.cells #[.slice aa az.length ac] 25)).alloc (.cells #[.slice ba bs.length bc] 25)):=((Below.refl w.heap.size w).alloc (Nat.le_refl _) _).alloc (by simp) _;have hwz:((w.alloc (.cells #[.slice aa az.length ac] 25)).alloc (.cells #[.slice ba bs.length bc] 25)).heap.size=w.heap.size+2:=by simp
 have zA:((w.alloc (.cells #[.slice aa az.length ac] 25)).alloc (.cells #[.slice ba bs.length bc] 25)).heap[w.heap.size]?=some (.cells #[.slice aa az.length ac] 25 (0,0)):=by
  have b1:=(Below.refl (w.alloc (.cells #[.slice aa az.length ac] 25)).heap.size (w.alloc (.cells #[.slice aa az.length ac] 25))).alloc (Nat.le_refl _) (.cells #[.slice ba bs.length bc] 25);rw[b1.block w.heap.size (by simp)];exact Al w _
 have zB:((w.alloc (.cells #[.slice aa az.length ac] 25)).alloc (.cells #[.slice ba bs.length bc] 25)).heap[w.heap.size+1]?=some (.cells #[.slice ba bs.length bc] 25 (0,0)):=by
  have:=Al (w.alloc (.cells #[.slice aa az.length ac] 25)) (.cells #[.slice ba bs.length bc] 25);rw[World.size_alloc]at this;exact this
 have HA2:=Aa (ha.below G);have HB2:=Aa (hb.below G);have SA:=Aa sa;have SB:=Aa sb;have hal:az.length≤1048576:=sa.1;have hbl:bs.length≤1048576:=sb.1;generalize hw2:(w.alloc (.cells #[.slice aa az.length ac] 25)).alloc (.cells #[.slice ba bs.length bc] 25)=w2 at *;have ew2:=Aa hw2;have cA:=Ab zA 0;have cB:=Ab zB 0;simp only[List.getElem?_toArray,List.getElem?_cons_zero]at cA cB;have hown0:=World.ownsRow_lit (base:=w.heap.size+2) (e:=93) (size:=5) w2 #[] 0 (by omega) (by decide) rfl;rw[hwz]at hown0;have b00:=(Below.refl (w.heap.size+2) w2).alloc (by omega) (.cells #[] 93);have M0:Bv (w.heap.size+2) (w2.alloc (.cells #[] 93)) (.slice (some ⟨w.heap.size+2,0,none⟩) 0 0) []:=⟨fun r hr=>by rw[List.mem_singleton.1 hr];exact hown0,by simp[D9]⟩;have s3:(w2.alloc (.cells #[] 93)).heap.size=w.heap.size+3:=by rw[World.size_alloc,hwz]
 have x0:=(b00.cell (p:=⟨w.heap.size,0,none⟩) (by simp)).trans cA;have x1:=(b00.cell (p:=⟨w.heap.size+1,0,none⟩) (by simp)).trans cB;have HA3:=HA2.out.below (by rw[hwz];exact b00);have HB3:=HB2.out.below (by rw[hwz];exact b00);have HVA:=fun W (h:Below (w.heap.size+2) w2 W)=>C6 (HA2.out.below (by rw[hwz];exact h)) SA.out
 have HVB:=fun W (h:Below (w.heap.size+2) w2 W)=>C6 (HB2.out.below (by rw[hwz];exact h)) SB.out
 clear ha hb sa sb hw2 hown0 HA3 HB3;obtain⟨PA,ePA⟩:∃ PA,az.map BAt.plain=PA:=⟨_,rfl⟩;obtain⟨PB,ePB⟩:∃ PB,bs.map BAt.plain=PB:=⟨_,rfl⟩;rw[ePA]at HVA;rw[ePB]at HVB;rw[ePA,ePB];have EPA:=Aa ePA;have EPB:=Aa ePB;have HDF:=Aa (show ∀ b1 b2,Ca PA=b1→Ca PB=b2→diffS PA PB=if b1=true∧b2=true then goneS PA PB++PB.flatMap (Ed PA) else [] from fun b1 b2 h1 h2=>by rw[← h1,← h2];rfl);generalize hv1:Ca PA=V1 at HVA;generalize hv2:Ca PB=V2 at HVB;have HV:=Aa (HDF.out V1 V2 hv1 hv2);clear ePA ePB HDF hv1 hv2;generalize hna:az.length=na at *;have ena:=Aa hna;clear hna;generalize hnb:bs.length=nb at *;have enb:=Aa hnb;clear hnb;go_enter Tryz.func36,Tryz.ntmps36;go_upto_region 2 with fail
 rw[ew2.out];go_wp2_with (go_at_call 14;refine(HVA _ b00).mono ?_)
 first | rintro e w4 rfl b4 | rintro e w4 ⟨rfl,b4⟩
 have B4:Below (w.heap.size+2) w2 w4:=b00.trans (b4.mono (by omega));have y0:=(B4.cell (p:=⟨w.heap.size,0,none⟩) (by simp)).trans cA;have y1:=(B4.cell (p:=⟨w.heap.size+1,0,none⟩) (by simp)).trans cB;have M4:=M0.below b4;cases V1
 ·have HO:=Aa (show Gi (diffS PA PB) w (.returned (.slice (some ⟨w.heap.size+2,0,none⟩) 0 0)) w4 from⟨_,[],rfl,by rw[HV.out];simp,by simp,by simp,A8.mono M4 (by omega),G.trans (B4.mono (by omega))⟩);clear M4 M0 HVA HVB;go_wp2;go_ret;exact HO.out
 ·go_wp2_with (go_at_call 14;refine(HVB _ B4).mono ?_)
  first | rintro e w5 rfl b5 | rintro e w5 ⟨rfl,b5⟩
  have B5:Below (w.heap.size+2) w2 w5:=B4.trans (b5.mono (by have:=B4.size;omega));have M5:=M4.below b5;cases V2
  ·have HO:=Aa (show Gi (diffS PA PB) w (.returned (.slice (some ⟨w.heap.size+2,0,none⟩) 0 0)) w5 from⟨_,[],rfl,by rw[HV.out];simp,by simp,by simp,A8.mono M5 (by omega),G.trans (B5.mono (by omega))⟩);clear M4 M5 M0 HVA HVB;go_wp2;go_ret;exact HO.out
  ·have HI1:=Aa (show Agj (w.heap.size+2) w2 PA PB na (.slice (some ⟨w.heap.size+2,0,none⟩) 0 0) (.int .i64 0) w5 from⟨0,[],rfl,by omega,by simp[goneS],by simp,by simp,M5,B5⟩);clear M4 M5 M0 HVA HVB B5 B4 b4 b5 y0 y1 x0 x1 b00 s3;go_wp2;go_loopw [5,6] (fun out i wr=>Agj (w.heap.size+2) w2 PA PB na out i wr) (fun _ i _=>na - (intOf i).toNat)
   case atStart=>exact HI1.out
   case round =>
    clear HI1;obtain⟨k,cs,rfl,hk,hcs,hsm,hcl,hm,bw⟩:=hrel;obtain⟨qa,qc,rfl,_⟩:=Ai (show wr.ownsRow (w.heap.size+2) 93 5 _ cs.length (cs.flatMap A6.cells) from A8.head hm);have hszw:=bw.size;rw[hwz]at hszw;have hB2:Below w2.heap.size w2 wr:=by rw[hwz];exact bw
    have kA:=(bw.cell (p:=⟨w.heap.size,0,none⟩) (by simp)).trans cA;have kB:=(bw.cell (p:=⟨w.heap.size+1,0,none⟩) (by simp)).trans cB;by_cases hlt:k<na
    ·obtain⟨D,x,T,eL,hD⟩:=Br az k (by have:=ena.out;omega);have hrow:=HA2.out.1;rw[eL]at hrow;obtain⟨g,off,rfl,d0,d1,_⟩:=hrow.block;rw[hD]at d0 d1;have lg:=World.block_lt_of_cell? w2 _ d0;simp only[hwz]at lg;have c0:=(bw.cell (p:=⟨g,off+k * 3,none⟩) lg).trans d0;have c1:=(bw.cell (p:=⟨g,off+k * 3+1,none⟩) lg).trans d1;have k1:(0:Int)≤(k:Int):=by omega
     have k2:(k:Int)<(na:Int):=by omega
     have HST:=Aa (show goneS (PA.take (k+1)) PB=cs.map A6.plain++(if (PB.find? (Bc x.kind x.name)).isNone=true then [Hm x.plain] else []) from by
      have e:PA=D.map BAt.plain++x.plain::T.map BAt.plain:=by rw[← EPA.out,eL];simp
      have:=Qm (B:=PB) e;rw[List.length_map,hD]at this;rw[this,hcs];rfl)
     have HF:∀ p:Gr wr,Calls Tryz.prog 52 #[.agg #[.slice ba nb bc],.string x.kind,.string x.name] p.u fun e w'=>e=.returned (.int .i64 (Fh PB x.kind x.name))∧Below p.u.heap.size p.u w':=fun p=>by
      have:=Gt x.kind x.name ((HB2.out.below hB2).below p.h) (by rw[enb.out];exact hbl);rw[← EPB.out];exact this
     have HGN:=Aa (show Hm x.plain=⟨1,x.kind,x.name,⟨#[]⟩,[]⟩ from rfl);have u0:=fun p:Gr wr=>Ap kA p
     have u1:=fun p:Gr wr=>Ap kB p
     have u2:=fun p:Gr wr=>Ap c0 p
     have u3:=fun p:Gr wr=>Ap c1 p
     have HNG:=Aa (@Ft PB x.kind x.name);have HM:=Aa hm;have HSM:=Aa hsm;clear hm hsm hcs hrow eL hD;generalize x.kind=xk at *;generalize x.name=xn at *;generalize hat:Fh PB xk xn=AT at *;clear hat;go_upto_region 7 with fail
     refine Bf (by kernel_rfl) (by kernel_rfl) ?_;iterate 13 quiet_step (fail)
     quiet_step ((go_at_call 52;refine Ff (HF _)))
     quiet_step (fail)
     refine wpQuiet_nil ?_;rintro wq ⟨⟨_,bq⟩,rfl⟩;have hq:=bq.size;have Bq:=bw.trans (bq.mono (by omega));clear u0 u1 u2 u3 HF kA kB c0 c1;by_cases hneg:AT<0
     ·have HS8:=Aa (show ∀ W,Below (w.heap.size+2) w2 W→W.cell? ⟨w.heap.size,0,none⟩=some (.slice (some ⟨g,off,none⟩) na ac)∧W.cell? ⟨g,off+k * 3,none⟩=some (.string xk)∧W.cell? ⟨g,off+k * 3+1,none⟩=some (.string xn) from fun W hu=>⟨(hu.cell (p:=⟨w.heap.size,0,none⟩) (by simp)).trans cA,(hu.cell (p:=⟨g,off+k * 3,none⟩) lg).trans d0,(hu.cell (p:=⟨g,off+k * 3+1,none⟩) lg).trans d1⟩);have Bd:Below (w.heap.size+2) w2 wq.drew:=Bq.drew;have s0:=fun p:{ W:World // W.cell? ⟨w.heap.size,0,none⟩=some (.slice (some ⟨g,off,none⟩) na ac)∧W.cell? ⟨g,off+k * 3,none⟩=some (.string xk)∧W.cell? ⟨g,off+k * 3+1,none⟩=some (.string xn) }=>p.2.1
      have s1:=fun p:{ W:World // W.cell? ⟨w.heap.size,0,none⟩=some (.slice (some ⟨g,off,none⟩) na ac)∧W.cell? ⟨g,off+k * 3,none⟩=some (.string xk)∧W.cell? ⟨g,off+k * 3+1,none⟩=some (.string xn) }=>p.2.2.1
      have s2:=fun p:{ W:World // W.cell? ⟨w.heap.size,0,none⟩=some (.slice (some ⟨g,off,none⟩) na ac)∧W.cell? ⟨g,off+k * 3,none⟩=some (.string xk)∧W.cell? ⟨g,off+k * 3+1,none⟩=some (.string xn) }=>p.2.2.2
      letI:Inhabited { W:World // W.cell? ⟨w.heap.size,0,none⟩=some (.slice (some ⟨g,off,none⟩) na ac)∧W.cell? ⟨g,off+k * 3,none⟩=some (.string xk)∧W.cell? ⟨g,off+k * 3+1,none⟩=some (.string xn) }:=⟨⟨wq.drew,HS8.out _ Bd⟩⟩;obtain⟨i0,hi,hi0,hi1,hi2⟩:=info_parts Ib;go_upto_region 8 with fail
      refine A0 (S:=fun W=>W.cell? ⟨w.heap.size,0,none⟩=some (.slice (some ⟨g,off,none⟩) na ac)∧W.cell? ⟨g,off+k * 3,none⟩=some (.string xk)∧W.cell? ⟨g,off+k * 3+1,none⟩=some (.string xn)) 16 17 (by kernel_rfl) rfl ?_;refine Ay [true,true,true,true,true,true,true,true,true,true,true,true,true,true,false,false,false] 3 rfl (by kernel_rfl) (HS8.out _ Bd) ?_;simp only[Ba,Bb,A9];iterate 14 (refine Ak (fun K hK=>?_);go_simp;refine hK _ ?_;clear hK K)
      refine Ao ?_;clear s0 s1 s2;refine Ac (f:=2) (rs:=[14]) (by kernel_rfl) (by simp) ?_;refine Ad.cons rfl (by decide) (fun K hK=>?_) Ad.nil;go_simp;have bN:Below wq.heap.size wq (wq.alloc (.cells #[.int .i64 1,.string xk,.string xn,.string ⟨#[]⟩,.slice none 0 0] 93)).drew:=((Below.refl wq.heap.size wq).alloc (Nat.le_refl _) _).drew;have hm3:(wq.alloc (.cells #[.int .i64 1,.string xk,.string xn,.string ⟨#[]⟩,.slice none 0 0] 93)).drew.ownsRow (w.heap.size+2) 93 5 (.slice qa cs.length qc) cs.length (cs.flatMap A6.cells):=(HM.out.below bq).row.alloc _;have hrow:An (wq.alloc (.cells #[.int .i64 1,.string xk,.string xn,.string ⟨#[]⟩,.slice none 0 0] 93)).drew _ 1 5 _:=Cj wq #[.int .i64 1,.string xk,.string xn,.string ⟨#[]⟩,.slice none 0 0] 93 5 rfl;have hone:∀ u∈(#[.int .i64 1,.string xk,.string xn,.string ⟨#[]⟩,.slice none 0 0]:Array Value).toList,u.oneCell'=true:=by intro u hu;simp at hu;rcases hu with rfl | rfl | rfl | rfl | rfl <;> rfl
      refine hK.out _ _ (HS8.out _ (Bq.trans (bN.mono (by omega)))) ?_;clear hK K;refine Ac (f:=1) (rs:=[15]) (by kernel_rfl) (by simp) ?_;refine Ad.cons rfl (by decide) (fun K hK=>?_) Ad.nil;refine A4 rfl _ _ 34 rfl (w.heap.size+2) 93 i0 _ 5 80 Tryz.underlying34 hi hi0 hi1 hi2 rfl (by decide) _ cs.length _ rfl hm3 _ 1 _ rfl hrow hone (by unfold maxLen;omega) (by omega) (by show _≤(wq.alloc _).heap.size;rw[World.size_alloc];omega) ?_;intro ao' cap' wE hownE hgE hvE;have HPU:=Me (x:=⟨1,xk,xn,⟨#[]⟩,.slice none 0 0,[]⟩) (HM.out.below bq) (by omega) (Nr wq.heap.size wq) (Below.refl _ _) hownE (Agi hgE) hvE;have BE:=Bq.trans (HPU.2.mono (by omega));refine hK.out _ _ (HS8.out _ BE) ?_;clear hK K;have HR:=Aa (show Agj (w.heap.size+2) w2 PA PB na (.slice ao' (cs.length+1) cap') (.int .i64 ((k:Int)+1)) wE from⟨k+1,cs++[⟨1,xk,xn,⟨#[]⟩,.slice none 0 0,[]⟩],by rw[Int.natCast_add];rfl,by omega,by
       rw[HST.out,if_pos (Option.isNone_iff_eq_none.2 (HNG.out.1 hneg)),List.map_append,HGN.out];rfl,fun c hc=>by
       rcases List.mem_append.1 hc with hc | hc
       ·exact HSM.out c hc
       ·rw[List.mem_singleton.1 hc];exact⟨by simp,fun z hz=>by cases hz⟩,by simp;omega,HPU.1,BE⟩)
      clear hm3 hrow hone hownE hgE hvE HPU bN;refine A5 (by kernel_rfl) rfl (by kernel_rfl) ?_;intro K hK;go_simp;refine hK.out _ _ (NoPanic.normal ?_);clear hK K;go_wp2;go_roundw;case rel=>exact HR.out
      case measure=>simp[intOf];omega
     ·have HR:=Aa (show Agj (w.heap.size+2) w2 PA PB na (.slice qa cs.length qc) (.int .i64 ((k:Int)+1)) wq from⟨k+1,cs,by rw[Int.natCast_add];rfl,by omega,by
       rw[HST.out,if_neg (fun h=>hneg (HNG.out.2 (Option.isNone_iff_eq_none.1 h))),List.append_nil],HSM.out,by omega,HM.out.below bq,Bq⟩)
      go_wp2;go_roundw;case rel=>exact HR.out
      case measure=>simp[intOf];omega
    ·obtain rfl:k=na:=by omega
     have hPA:PA.take k=PA:=by rw[← EPA.out,← ena.out,← List.length_map (f:=BAt.plain),List.take_length]
     rw[hPA]at hcs;have HI2:=Aa (show Agk (w.heap.size+2) w2 PA PB k nb (.slice qa cs.length qc) (.int .i64 0) wr from⟨0,cs,rfl,by omega,by rw[hcs];simp,hsm,by omega,hm,bw⟩);clear hm hsm hcs hPA bw hB2 hcl;generalize cs.length=nc at *;generalize hna:k=na at *;clear hna;obtain⟨wo,hwo⟩:∃ wo,wo=wr:=⟨_,rfl⟩;subst hwo;go_wp2;go_loopw [5,7] (fun out i wr=>Agk (w.heap.size+2) w2 PA PB na nb out i wr) (fun _ i _=>nb - (intOf i).toNat)
     case atStart=>exact HI2.out
     case round =>
      clear HI2;obtain⟨k,cs,rfl,hk,hcs,hsm,hcl,hm,bw⟩:=hrel;obtain⟨qa,qc,rfl,_⟩:=Ai (show wr.ownsRow (w.heap.size+2) 93 5 _ cs.length (cs.flatMap A6.cells) from A8.head hm);have hszw:=bw.size;rw[hwz]at hszw;have hB2:Below w2.heap.size w2 wr:=by rw[hwz];exact bw
      have kA:=(bw.cell (p:=⟨w.heap.size,0,none⟩) (by simp)).trans cA;have kB:=(bw.cell (p:=⟨w.heap.size+1,0,none⟩) (by simp)).trans cB;by_cases hlt:k<nb
      ·obtain⟨D,y,T,eL,hD⟩:=Br bs k (by have:=enb.out;omega);have hrow:=HB2.out.1;rw[eL]at hrow;obtain⟨g,off,rfl,d0,d1,d2⟩:=hrow.block;rw[hD]at d0 d1 d2;have hym:y∈bs:=by rw[eL];simp
       have hyl:=(HB2.out.below hB2).2 y hym;have hys:=(SB.out.2 y hym).2;have HST:=Aa (show (PB.take (k+1)).flatMap (Ed PA)=(PB.take k).flatMap (Ed PA)++Ed PA y.plain from Kz _ (show PB=D.map BAt.plain++y.plain::T.map BAt.plain by rw[← EPB.out,eL];simp) (by rw[List.length_map];exact hD));obtain⟨yk,yn,yv,yl⟩:=y;simp only at d0 d1 d2 hys;have hyl:Ah wr yv yl:=hyl;obtain⟨ya,yc,rfl⟩:=hyl.1.form;have HYP:=Aa (show (⟨yk,yn,.slice ya yl.length yc,yl⟩:BAt).plain=⟨yk,yn,yl.map LAt.plain⟩ from rfl);rw[HYP.out]at HST;have lg:=World.block_lt_of_cell? w2 _ d0;simp only[hwz]at lg;have c0:=(bw.cell (p:=⟨g,off+k * 3,none⟩) lg).trans d0;have c1:=(bw.cell (p:=⟨g,off+k * 3+1,none⟩) lg).trans d1;have c2:=(bw.cell (p:=⟨g,off+k * 3+2,none⟩) lg).trans d2;have k1:(0:Int)≤(k:Int):=by omega
       have k2:(k:Int)<(nb:Int):=by omega
       generalize hny:yl.length=ny at *;have eny:=Aa hny;clear hny;have bR:=(Below.refl wr.heap.size wr).alloc (Nat.le_refl _) (.cells #[.string yk,.string yn,.slice ya ny yc] 46);have zR:=Al wr (.cells #[.string yk,.string yn,.slice ya ny yc] 46);have y0:=Ab zR 0;have y1:=Ab zR 1;have y2:=Ab zR 2;simp only[List.getElem?_toArray,List.getElem?_cons_zero,List.getElem?_cons_succ]at y0 y1 y2;have x0:=(bR.cell (World.block_lt_of_cell? wr _ kA)).trans kA;have HF:=Gt yk yn ((HA2.out.below hB2).below bR) (by rw[ena.out];exact hal);unfold Gs at HF;rw[EPA.out]at HF;have HNG:=Aa (@Ft PA yk yn);have HSOME:=Aa (@Fy PA yk yn);have hOWN:=Aa (show (Value.slice qa cs.length qc).ownBlock≠some wr.heap.size from fun e=>Nat.lt_irrefl _ (A8.lt hm (List.mem_cons_self ..) e).2);have HM:=Aa (hm.below bR);have HSM:=Aa hsm;have HCS:=Aa hcs;have HYL:=Aa (hyl.below bR);have HYS:=Aa hys;have BR:=bw.trans (bR.mono (by omega));clear hm hsm hcs hrow eL hD hym hyl hys d0 d1 d2 HYP;generalize hat:Fh PA yk yn=AT at *;clear hat;generalize hWR:wr.alloc (.cells #[.string yk,.string yn,.slice ya ny yc] 46)=WR at *;have eWR:=Aa hWR;clear hWR zR;have hzR:wr.heap.size<WR.heap.size:=World.block_lt_of_cell? WR _ y0;go_upto_region 13 with fail
       rw[eWR.out];go_wp2_with (go_at_call 52;refine HF.mono ?_)
       first | rintro e wq rfl bq | rintro e wq ⟨rfl,bq⟩
       have hq:=bq.size;have Bq:=BR.trans (bq.mono (by omega));have HMq:=Aa (HM.out.below bq);have HSY:=Aa (show ∀ W,Below wq.heap.size wq W→W.cell? ⟨wr.heap.size,0,none⟩=some (.string yk)∧W.cell? ⟨wr.heap.size,1,none⟩=some (.string yn)∧W.cell? ⟨wr.heap.size,2,none⟩=some (.slice ya ny yc) from fun W hu=>by
        have e:=bq.trans (hu.mono hq);exact⟨(e.cell (World.block_lt_of_cell? WR _ y0)).trans y0,(e.cell (World.block_lt_of_cell? WR _ y1)).trans y1,(e.cell (World.block_lt_of_cell? WR _ y2)).trans y2⟩)
       clear HF c0 c1 c2 kA kB x0 HM bR;obtain⟨i0,hi,hi0,hi1,hi2⟩:=info_parts Ib;by_cases hneg:AT<0
       ·have HL:=Hh (HYL.out.below bq) HYS.out;have Bd:Below wq.heap.size wq wq.drew:=(Below.refl _ _).drew;have HLd:=Hh ((HYL.out.below bq).below Bd) HYS.out;clear HL;have s0:=fun p:{ W:World // W.cell? ⟨wr.heap.size,0,none⟩=some (.string yk)∧W.cell? ⟨wr.heap.size,1,none⟩=some (.string yn)∧W.cell? ⟨wr.heap.size,2,none⟩=some (.slice ya ny yc) }=>p.2.1
        have s1:=fun p:{ W:World // W.cell? ⟨wr.heap.size,0,none⟩=some (.string yk)∧W.cell? ⟨wr.heap.size,1,none⟩=some (.string yn)∧W.cell? ⟨wr.heap.size,2,none⟩=some (.slice ya ny yc) }=>p.2.2.1
        have s2:=fun p:{ W:World // W.cell? ⟨wr.heap.size,0,none⟩=some (.string yk)∧W.cell? ⟨wr.heap.size,1,none⟩=some (.string yn)∧W.cell? ⟨wr.heap.size,2,none⟩=some (.slice ya ny yc) }=>p.2.2.2
        letI:Inhabited { W:World // W.cell? ⟨wr.heap.size,0,none⟩=some (.string yk)∧W.cell? ⟨wr.heap.size,1,none⟩=some (.string yn)∧W.cell? ⟨wr.heap.size,2,none⟩=some (.slice ya ny yc) }:=⟨⟨wq.drew,HSY.out _ Bd⟩⟩;go_upto_region 15 with fail
        refine A0 (S:=fun W=>W.cell? ⟨wr.heap.size,0,none⟩=some (.string yk)∧W.cell? ⟨wr.heap.size,1,none⟩=some (.string yn)∧W.cell? ⟨wr.heap.size,2,none⟩=some (.slice ya ny yc)) 11 12 (by kernel_rfl) rfl ?_;refine Ay [true,true,true,true,true,true,true,false,false,false,false,false] 5 rfl (by kernel_rfl) (HSY.out _ Bd) ?_;simp only[Ba,Bb,A9];iterate 7 (refine Ak (fun K hK=>?_);go_simp;refine hK _ ?_;clear hK K)
        refine Ao ?_;clear s0 s1 s2;refine Ac (f:=4) (rs:=[7]) (by kernel_rfl) (by simp) ?_;refine Ad.cons rfl (by decide) (fun K hK=>?_) Ad.nil;go_simp;go_wp2_with (go_at_call 97;refine HLd.mono ?_;rintro e w7 ⟨v7,ls7,rfl,hp7,o7,b7⟩;obtain⟨a7,c7,rfl,_⟩:=Ai o7.row)
        have b7':Below wq.heap.size wq w7:=Bd.trans b7;refine hK.out _ _ (HSY.out _ b7') ?_;clear hK K;refine Ay [false,false,false,false,false,false,false,false,true,false,false,false] 3 rfl (by kernel_rfl) (HSY.out _ b7') ?_;simp only[Ba,Bb,A9];iterate 1 (refine Ak (fun K hK=>?_);go_simp;refine hK _ ?_;clear hK K)
        refine Ao ?_;refine Ac (f:=2) (rs:=[9]) (by kernel_rfl) (by simp) ?_;refine Ad.cons rfl (by decide) (fun K hK=>?_) Ad.nil;go_simp;have bN:Below wq.heap.size wq (w7.alloc (.cells #[.int .i64 2,.string yk,.string yn,.string ⟨#[]⟩,.slice a7 ls7.length c7] 93)):=b7'.alloc b7'.size _;have hm3:(w7.alloc (.cells #[.int .i64 2,.string yk,.string yn,.string ⟨#[]⟩,.slice a7 ls7.length c7] 93)).ownsRow (w.heap.size+2) 93 5 (.slice qa cs.length qc) cs.length (cs.flatMap A6.cells):=(HMq.out.below b7').row.alloc _;have hrow:=Cj w7 #[.int .i64 2,.string yk,.string yn,.string ⟨#[]⟩,.slice a7 ls7.length c7] 93 5 rfl;have hone:∀ u∈(#[.int .i64 2,.string yk,.string yn,.string ⟨#[]⟩,.slice a7 ls7.length c7]:Array Value).toList,u.oneCell'=true:=by intro u hu;simp at hu;rcases hu with rfl | rfl | rfl | rfl | rfl <;> rfl
        refine hK.out _ _ (HSY.out _ bN) ?_;clear hK K;refine Ac (f:=1) (rs:=[10]) (by kernel_rfl) (by simp) ?_;refine Ad.cons rfl (by decide) (fun K hK=>?_) Ad.nil;have hz7:=b7'.size;refine A4 rfl _ _ 34 rfl (w.heap.size+2) 93 i0 _ 5 80 Tryz.underlying34 hi hi0 hi1 hi2 rfl (by decide) _ cs.length _ rfl hm3 _ 1 _ rfl hrow hone (by unfold maxLen;omega) (by omega) (by rw[World.size_alloc];omega) ?_;intro ao' cap' wE hownE hgE hvE;have HPU:=Me (x:=⟨2,yk,yn,⟨#[]⟩,.slice a7 ls7.length c7,ls7⟩) HMq.out (by omega) o7 b7' hownE hgE hvE;have BE:=Bq.trans (HPU.2.mono (by omega));have hRz:wr.heap.size<(w7.alloc (.cells #[.int .i64 2,.string yk,.string yn,.string ⟨#[]⟩,.slice a7 ls7.length c7] 93)).heap.size:=by rw[World.size_alloc];omega
        have HSN:=HSY.out _ bN;have HSE:wE.cell? ⟨wr.heap.size,0,none⟩=some (.string yk)∧wE.cell? ⟨wr.heap.size,1,none⟩=some (.string yn)∧wE.cell? ⟨wr.heap.size,2,none⟩=some (.slice ya ny yc):=⟨(hgE.cell_far ⟨wr.heap.size,0,none⟩ hRz (Ne.symm hOWN.out)).trans HSN.1,(hgE.cell_far ⟨wr.heap.size,1,none⟩ hRz (Ne.symm hOWN.out)).trans HSN.2.1,(hgE.cell_far ⟨wr.heap.size,2,none⟩ hRz (Ne.symm hOWN.out)).trans HSN.2.2⟩;refine hK.out _ _ HSE ?_;clear hK K;have HR:=Aa (show Agk (w.heap.size+2) w2 PA PB na nb (.slice ao' (cs.length+1) cap') (.int .i64 ((k:Int)+1)) wE from⟨k+1,cs++[⟨2,yk,yn,⟨#[]⟩,.slice a7 ls7.length c7,ls7⟩],by rw[Int.natCast_add];rfl,by omega,by
         rw[HST.out,List.map_append,HCS.out,List.append_assoc];congr 2;unfold Ed;rw[show PA.find? (Bc (⟨yk,yn,yl.map LAt.plain⟩:PBlock).kind (⟨yk,yn,yl.map LAt.plain⟩:PBlock).name)=none from HNG.out.1 hneg];show [(⟨2,yk,yn,⟨#[]⟩,ls7.map LAt.plain⟩:PChange)]=[Sc ⟨yk,yn,yl.map LAt.plain⟩]
         rw[hp7];rfl,fun c hc=>by
         rcases List.mem_append.1 hc with hc | hc
         ·exact HSM.out c hc
         ·rw[List.mem_singleton.1 hc];exact HYS.out.same hp7,by simp;omega,HPU.1,BE⟩)
        clear hm3 hrow hone hownE hgE hvE HPU bN;refine A5 (by kernel_rfl) rfl (by kernel_rfl) ?_;intro K hK;go_simp;refine hK.out _ _ (NoPanic.normal ?_);clear hK K;go_wp2;go_roundw;case rel=>exact HR.out
        case measure=>simp[intOf];omega
       ·obtain⟨j,hj,rfl,hfind⟩:=HSOME.out (by omega);have hjz:j<az.length:=by rw[← EPA.out,List.length_map]at hj;exact hj
        obtain⟨D2,x,T2,eL2,hD2⟩:=Br az j hjz;have hPx:PA[j]'hj=x.plain:=by
         have h1:PA[j]?=some x.plain:=by rw[← EPA.out,eL2,List.getElem?_map,List.getElem?_append_right (by omega),hD2,Nat.sub_self];rfl
         rw[List.getElem?_eq_getElem hj]at h1;exact Option.some.inj h1
        rw[hPx]at hfind;have hrow2:=HA2.out.1;rw[eL2]at hrow2;obtain⟨g2,off2,eaa,p0,p1,p2⟩:=hrow2.block;subst eaa;rw[hD2]at p0 p1 p2;have hxm:x∈az:=by rw[eL2];simp
        have hxs:=(SA.out.2 x hxm).2;have hB2q:Below w2.heap.size w2 wq:=by rw[hwz];exact Bq
        have Bd:Below wq.heap.size wq wq.drew:=(Below.refl _ _).drew;have hxl:=((HA2.out.below hB2q).below Bd).2 x hxm;have HBK:=Ww (x:=x) (y:=⟨yk,yn,.slice ya ny yc,yl⟩) (w:=wq.drew) hxl ((HYL.out.below bq).below Bd) hxs HYS.out;have HDY:=Aa (show Ed PA ⟨yk,yn,yl.map LAt.plain⟩=Ma x.plain ⟨yk,yn,yl.map LAt.plain⟩ from by
         unfold Ed;rw[show PA.find? (Bc (⟨yk,yn,yl.map LAt.plain⟩:PBlock).kind (⟨yk,yn,yl.map LAt.plain⟩:PBlock).name)=some x.plain from hfind])
        obtain⟨xk,xn,xv,xl⟩:=x;have hxl2:Ah wq.drew xv xl:=hxl;obtain⟨xa,xc,rfl⟩:=hxl2.1.form;simp only at HBK p0 p1 p2;have lg2:=World.block_lt_of_cell? w2 _ p0;simp only[hwz]at lg2;generalize hnx:xl.length=nx at *;clear hnx;have HS6:=Aa (show ∀ W,Below (w.heap.size+2) w2 W→(W.cell? ⟨wr.heap.size,0,none⟩=some (.string yk)∧W.cell? ⟨wr.heap.size,1,none⟩=some (.string yn)∧W.cell? ⟨wr.heap.size,2,none⟩=some (.slice ya ny yc))→W.cell? ⟨w.heap.size,0,none⟩=some (.slice (some ⟨g2,off2,none⟩) na ac)∧(W.cell? ⟨g2,off2+j * 3,none⟩=some (.string xk)∧W.cell? ⟨g2,off2+j * 3+1,none⟩=some (.string xn)∧W.cell? ⟨g2,off2+j * 3+2,none⟩=some (.slice xa nx xc))∧(W.cell? ⟨wr.heap.size,0,none⟩=some (.string yk)∧W.cell? ⟨wr.heap.size,1,none⟩=some (.string yn)∧W.cell? ⟨wr.heap.size,2,none⟩=some (.slice ya ny yc)) from fun W hu hs=>⟨(hu.cell (p:=⟨w.heap.size,0,none⟩) (by simp)).trans cA,⟨(hu.cell (p:=⟨g2,off2+j * 3,none⟩) lg2).trans p0,(hu.cell (p:=⟨g2,off2+j * 3+1,none⟩) lg2).trans p1,(hu.cell (p:=⟨g2,off2+j * 3+2,none⟩) lg2).trans p2⟩,hs⟩);clear hxl hxl2 hxs hxm hrow2 eL2 hPx p0 p1 p2 hfind hB2q;have j0:(0:Int)≤(j:Int):=by omega
        have j1:(j:Int)<(na:Int):=by rw[ena.out]at hjz;omega
        have hS0:=HS6.out _ Bq.drew (HSY.out _ Bd);have s0:=fun p:{ W:World // W.cell? ⟨w.heap.size,0,none⟩=some (.slice (some ⟨g2,off2,none⟩) na ac)∧(W.cell? ⟨g2,off2+j * 3,none⟩=some (.string xk)∧W.cell? ⟨g2,off2+j * 3+1,none⟩=some (.string xn)∧W.cell? ⟨g2,off2+j * 3+2,none⟩=some (.slice xa nx xc))∧(W.cell? ⟨wr.heap.size,0,none⟩=some (.string yk)∧W.cell? ⟨wr.heap.size,1,none⟩=some (.string yn)∧W.cell? ⟨wr.heap.size,2,none⟩=some (.slice ya ny yc)) }=>p.2.1
        have s1:=fun p:{ W:World // W.cell? ⟨w.heap.size,0,none⟩=some (.slice (some ⟨g2,off2,none⟩) na ac)∧(W.cell? ⟨g2,off2+j * 3,none⟩=some (.string xk)∧W.cell? ⟨g2,off2+j * 3+1,none⟩=some (.string xn)∧W.cell? ⟨g2,off2+j * 3+2,none⟩=some (.slice xa nx xc))∧(W.cell? ⟨wr.heap.size,0,none⟩=some (.string yk)∧W.cell? ⟨wr.heap.size,1,none⟩=some (.string yn)∧W.cell? ⟨wr.heap.size,2,none⟩=some (.slice ya ny yc)) }=>p.2.2.1.1
        have s2:=fun p:{ W:World // W.cell? ⟨w.heap.size,0,none⟩=some (.slice (some ⟨g2,off2,none⟩) na ac)∧(W.cell? ⟨g2,off2+j * 3,none⟩=some (.string xk)∧W.cell? ⟨g2,off2+j * 3+1,none⟩=some (.string xn)∧W.cell? ⟨g2,off2+j * 3+2,none⟩=some (.slice xa nx xc))∧(W.cell? ⟨wr.heap.size,0,none⟩=some (.string yk)∧W.cell? ⟨wr.heap.size,1,none⟩=some (.string yn)∧W.cell? ⟨wr.heap.size,2,none⟩=some (.slice ya ny yc)) }=>p.2.2.1.2.1
        have s3:=fun p:{ W:World // W.cell? ⟨w.heap.size,0,none⟩=some (.slice (some ⟨g2,off2,none⟩) na ac)∧(W.cell? ⟨g2,off2+j * 3,none⟩=some (.string xk)∧W.cell? ⟨g2,off2+j * 3+1,none⟩=some (.string xn)∧W.cell? ⟨g2,off2+j * 3+2,none⟩=some (.slice xa nx xc))∧(W.cell? ⟨wr.heap.size,0,none⟩=some (.string yk)∧W.cell? ⟨wr.heap.size,1,none⟩=some (.string yn)∧W.cell? ⟨wr.heap.size,2,none⟩=some (.slice ya ny yc)) }=>p.2.2.1.2.2
        have s4:=fun p:{ W:World // W.cell? ⟨w.heap.size,0,none⟩=some (.slice (some ⟨g2,off2,none⟩) na ac)∧(W.cell? ⟨g2,off2+j * 3,none⟩=some (.string xk)∧W.cell? ⟨g2,off2+j * 3+1,none⟩=some (.string xn)∧W.cell? ⟨g2,off2+j * 3+2,none⟩=some (.slice xa nx xc))∧(W.cell? ⟨wr.heap.size,0,none⟩=some (.string yk)∧W.cell? ⟨wr.heap.size,1,none⟩=some (.string yn)∧W.cell? ⟨wr.heap.size,2,none⟩=some (.slice ya ny yc)) }=>p.2.2.2.1
        have s5:=fun p:{ W:World // W.cell? ⟨w.heap.size,0,none⟩=some (.slice (some ⟨g2,off2,none⟩) na ac)∧(W.cell? ⟨g2,off2+j * 3,none⟩=some (.string xk)∧W.cell? ⟨g2,off2+j * 3+1,none⟩=some (.string xn)∧W.cell? ⟨g2,off2+j * 3+2,none⟩=some (.slice xa nx xc))∧(W.cell? ⟨wr.heap.size,0,none⟩=some (.string yk)∧W.cell? ⟨wr.heap.size,1,none⟩=some (.string yn)∧W.cell? ⟨wr.heap.size,2,none⟩=some (.slice ya ny yc)) }=>p.2.2.2.2.1
        have s6:=fun p:{ W:World // W.cell? ⟨w.heap.size,0,none⟩=some (.slice (some ⟨g2,off2,none⟩) na ac)∧(W.cell? ⟨g2,off2+j * 3,none⟩=some (.string xk)∧W.cell? ⟨g2,off2+j * 3+1,none⟩=some (.string xn)∧W.cell? ⟨g2,off2+j * 3+2,none⟩=some (.slice xa nx xc))∧(W.cell? ⟨wr.heap.size,0,none⟩=some (.string yk)∧W.cell? ⟨wr.heap.size,1,none⟩=some (.string yn)∧W.cell? ⟨wr.heap.size,2,none⟩=some (.slice ya ny yc)) }=>p.2.2.2.2.2
        letI:Inhabited { W:World // W.cell? ⟨w.heap.size,0,none⟩=some (.slice (some ⟨g2,off2,none⟩) na ac)∧(W.cell? ⟨g2,off2+j * 3,none⟩=some (.string xk)∧W.cell? ⟨g2,off2+j * 3+1,none⟩=some (.string xn)∧W.cell? ⟨g2,off2+j * 3+2,none⟩=some (.slice xa nx xc))∧(W.cell? ⟨wr.heap.size,0,none⟩=some (.string yk)∧W.cell? ⟨wr.heap.size,1,none⟩=some (.string yn)∧W.cell? ⟨wr.heap.size,2,none⟩=some (.slice ya ny yc)) }:=⟨⟨wq.drew,hS0⟩⟩;go_upto_region 16 with fail
        refine A0 (S:=fun W=>W.cell? ⟨w.heap.size,0,none⟩=some (.slice (some ⟨g2,off2,none⟩) na ac)∧(W.cell? ⟨g2,off2+j * 3,none⟩=some (.string xk)∧W.cell? ⟨g2,off2+j * 3+1,none⟩=some (.string xn)∧W.cell? ⟨g2,off2+j * 3+2,none⟩=some (.slice xa nx xc))∧(W.cell? ⟨wr.heap.size,0,none⟩=some (.string yk)∧W.cell? ⟨wr.heap.size,1,none⟩=some (.string yn)∧W.cell? ⟨wr.heap.size,2,none⟩=some (.slice ya ny yc))) 9 10 (by kernel_rfl) rfl ?_;refine Ay [true,true,true,true,true,true,true,false,false,false] 3 rfl (by kernel_rfl) hS0 ?_;simp only[Ba,Bb,A9];iterate 7 (refine Ak (fun K hK=>?_);go_simp;refine hK _ ?_;clear hK K)
        refine Ao ?_;clear s0 s1 s2 s3 s4 s5 s6;refine Ac (f:=2) (rs:=[7]) (by kernel_rfl) (by simp) ?_;refine Ad.cons rfl (by decide) (fun K hK=>?_) Ad.nil;go_simp;go_wp2_with (go_at_call 98;refine HBK.mono ?_;rintro e w7 ⟨v7,cs7,rfl,hp7,hs7,o7,hl7,b7⟩;obtain⟨a7,c7,rfl,_⟩:=Ai o7.row)
        have b7':Below wq.heap.size wq w7:=Bd.trans b7;have hz7:=b7'.size;have B7:=Bq.trans (b7'.mono (by omega));refine hK.out _ _ (HS6.out _ B7 (HSY.out _ b7')) ?_;clear hK K;refine Ac (f:=1) (rs:=[8]) (by kernel_rfl) (by simp) ?_;refine Ad.cons rfl (by decide) (fun K hK=>?_) Ad.nil;have hm3:=(HMq.out.below b7').row;have hrow:=Bo o7.row;have hone:=Zm (cs:=cs7) (fun z hz=>by obtain⟨a,c,e⟩:=An.form (o7.cin.2 z hz).1;exact⟨a,_,c,e⟩);refine A4 rfl _ _ 34 rfl (w.heap.size+2) 93 i0 _ 5 80 Tryz.underlying34 hi hi0 hi1 hi2 rfl (by decide) _ cs.length _ rfl hm3 _ cs7.length _ rfl hrow hone (by unfold maxLen;omega) (by omega) (by omega) ?_;intro ao' cap' wE hownE hgE hvE;have HPU:=T5 HMq.out (by omega) o7 b7' hownE hgE hvE;have BE:=Bq.trans (HPU.2.mono (by omega));have hRz:wr.heap.size<w7.heap.size:=by omega
        have HSN:=HSY.out _ b7';have HSE:wE.cell? ⟨wr.heap.size,0,none⟩=some (.string yk)∧wE.cell? ⟨wr.heap.size,1,none⟩=some (.string yn)∧wE.cell? ⟨wr.heap.size,2,none⟩=some (.slice ya ny yc):=⟨(hgE.cell_far ⟨wr.heap.size,0,none⟩ hRz (Ne.symm hOWN.out)).trans HSN.1,(hgE.cell_far ⟨wr.heap.size,1,none⟩ hRz (Ne.symm hOWN.out)).trans HSN.2.1,(hgE.cell_far ⟨wr.heap.size,2,none⟩ hRz (Ne.symm hOWN.out)).trans HSN.2.2⟩;refine hK.out _ _ (HS6.out _ BE HSE) ?_;clear hK K;have HR:=Aa (show Agk (w.heap.size+2) w2 PA PB na nb (.slice ao' (cs.length+cs7.length) cap') (.int .i64 ((k:Int)+1)) wE from⟨k+1,cs++cs7,by rw[Int.natCast_add];rfl,by omega,by
         rw[HST.out,List.map_append,HCS.out,List.append_assoc,HDY.out,hp7];rfl,fun c hc=>by
         rcases List.mem_append.1 hc with hc | hc
         ·exact HSM.out c hc
         ·exact hs7 c hc,by rw[List.length_append];omega,HPU.1,BE⟩)
        clear hm3 hrow hone hownE hgE hvE HPU o7 hp7;generalize cs7.length=n77 at *;refine A5 (by kernel_rfl) rfl (by kernel_rfl) ?_;intro K hK;go_simp;refine hK.out _ _ (NoPanic.normal ?_);clear hK K;go_wp2;go_roundw;case rel=>exact HR.out
        case measure=>simp[intOf];omega
      ·obtain rfl:k=nb:=by omega
       have hPB:PB.take k=PB:=by rw[← EPB.out,← enb.out,← List.length_map (f:=BAt.plain),List.take_length]
       rw[hPB]at hcs;have HO:=Aa (show Gi (diffS PA PB) w (.returned (.slice qa cs.length qc)) wr from⟨_,cs,rfl,by rw[HV.out,hcs];simp,hsm,by omega,A8.mono hm (by omega),G.trans (bw.mono (by omega))⟩);clear hm hsm hcs;generalize cs.length=nc2 at *;go_wp2;go_ret;exact HO.out
def Fg(P:List PBlock)(kind name:ByteArray)(t:Nat):Int:=match P[t]? with
 | some b=>blockCmp b.kind b.name kind name
 | none=>0
def Ml(P:List PBlock)(kind name:ByteArray)(i:Nat):Prop:=i≤P.length∧(∀ t,t<i→Fg P kind name t<0)∧∀ t,i≤t→t<P.length→¬ Fg P kind name t<0
def Ii(P:List PBlock)(kind name:ByteArray)(w:World)(e:Ending)(w':World):Prop:=∃(i:Nat) (f:Bool),e=.returned (.tuple #[.int .i64 (i:Int),.bool f])∧Ml P kind name i∧(f=true↔i<P.length∧Fg P kind name i=0)∧Below w.heap.size w w'
theorem Xc(kind name:ByteArray)(hb:Aw w v bs)(hl:bs.length≤1048576)(hmono:∀ s t,s≤t→t<bs.length→Fg (bs.map BAt.plain) kind name t<0→Fg (bs.map BAt.plain) kind name s<0):Calls Tryz.prog 176 #[v,.agg #[.string kind,.string name,.slice none 0 0],.func (.func 51) #[] #[]] w fun e w'=>Ii (bs.map BAt.plain) kind name w e w':=by
 obtain⟨ao,cap,rfl⟩:=hb.1.form;have G:=(Below.refl w.heap.size w).alloc (Nat.le_refl _) (.cells #[.string kind,.string name,.slice none 0 0] 46);have z:=Al w (.cells #[.string kind,.string name,.slice none 0 0] 46);have HB:=Aa (hb.below G);have HMO:=Aa hmono;generalize hn:bs.length=n at *;have en:=Aa hn;clear hb hmono hn;generalize hw1:w.alloc (.cells #[.string kind,.string name,.slice none 0 0] 46)=w1 at *;have ew1:=Aa hw1;clear hw1;go_enter Tryz.func176,Tryz.ntmps176;go_wp2;rw[ew1.out];go_loopw [9,10] (fun iv jv wr=>∃(i j:Nat),iv=.int .i64 (i:Int)∧jv=.int .i64 (j:Int)∧i≤j∧j≤n∧Hid (∀ t,t<i→Fg (bs.map BAt.plain) kind name t<0)∧Hid (∀ t,j≤t→t<n→¬ Fg (bs.map BAt.plain) kind name t<0)∧Below w1.heap.size w1 wr) (fun iv jv _=>(intOf jv - intOf iv).toNat)
 case atStart=>exact⟨0,n,rfl,rfl,by omega,by omega,Aa (fun t h=>by omega),Aa (fun t h h2=>by omega),Below.refl _ _⟩
 case round =>
  obtain⟨i,j,rfl,rfl,hij,hjn,hlo,hhi,bw⟩:=hrel;have z0:=(bw.block w.heap.size (by rw[← ew1.out];simp)).trans z;have k0:=Ab z0 0;have k1:=Ab z0 1;have k2:=Ab z0 2;simp only[List.getElem?_toArray,List.getElem?_cons_zero,List.getElem?_cons_succ]at k0 k1 k2;by_cases hlt:i<j
  ·have hlt':((i:Int)<(j:Int)):=by omega
   go_upto_region 5 with fail
   obtain⟨h,hh,hi1,hi2⟩:∃ h:Nat,((i:Int)+(j:Int)) / 2=(h:Int)∧i≤h∧h<j:=⟨(i+j) / 2,by omega,by omega,by omega⟩;rw[hh];obtain⟨D,r,T,eL,hD⟩:=Br bs h (by have:=en.out;omega);have hbl:=HB.out.below bw;have hrow:=hbl.1;rw[eL]at hrow;obtain⟨g,off,rfl,c0,c1,c2⟩:=hrow.block;obtain⟨ra,rc,er⟩:=(hbl.2 r (by rw[eL];simp)).1.form;rw[er]at c2;rw[hD]at c0 c1 c2;have HAT:=Aa (show Fg (bs.map BAt.plain) kind name h=blockCmp r.kind r.name kind name from by
    unfold Fg;rw[List.getElem?_map,eL,List.getElem?_append_right (by omega),hD,Nat.sub_self];rfl)
   have HC:∀ p:Gr wr,Calls Tryz.prog 51 #[.agg #[.string r.kind,.string r.name,.slice ra r.ls.length rc],.agg #[.string kind,.string name,.slice none 0 0]] p.u fun e w'=>e=.returned (.int .i64 (blockCmp r.kind r.name kind name))∧Below p.u.heap.size p.u w':=fun p=>(Gd r.kind r.name kind name r.ls.length 0 rc 0 ra none p.u).mono fun e w' h=>⟨h.1,h.2.1⟩
   have u0:=fun p:Gr wr=>Ap c0 p
   have u1:=fun p:Gr wr=>Ap c1 p
   have u2:=fun p:Gr wr=>Ap c2 p
   have v0:=fun p:Gr wr=>Ap k0 p
   have v1:=fun p:Gr wr=>Ap k1 p
   have v2:=fun p:Gr wr=>Ap k2 p
   have h0:(0:Int)≤(h:Int):=by omega
   have h1:(h:Int)<(n:Int):=by omega
   clear hbl hrow er eL hD c0 c1 c2;generalize r.kind=rk at *;generalize r.name=rn at *;generalize r.ls.length=nr at *;generalize hcr:blockCmp rk rn kind name=cr at *;clear hcr;refine Bf (by kernel_rfl) (by kernel_rfl) ?_;iterate 6 quiet_step (fail)
   quiet_step ((go_at_call 51;refine Ff (HC _)))
   quiet_step (fail)
   refine wpQuiet_nil ?_;rintro wq ⟨⟨_,bq⟩,rfl⟩;have Bq:=bw.trans (bq.mono bw.size);clear u0 u1 u2 v0 v1 v2 HC k0 k1 k2;by_cases hneg:cr<0
   ·have HLO:=Aa (show ∀ t,t<h+1→Fg (bs.map BAt.plain) kind name t<0 from fun t ht=>HMO.out t h (by omega) (by omega) (by rw[HAT.out];exact hneg));go_wp2;go_roundw;case rel=>exact⟨h+1,j,by go_num,rfl,by omega,by omega,HLO,hhi,Bq⟩
    case measure=>simp[intOf];omega
   ·have HHI:=Aa (show ∀ t,h≤t→t<n→¬ Fg (bs.map BAt.plain) kind name t<0 from fun t ht htn hc=>hneg (by rw[← HAT.out];exact HMO.out h t ht htn hc));go_wp2;go_roundw;case rel=>exact⟨i,h,rfl,rfl,by omega,by omega,hlo,HHI,Bq⟩
    case measure=>simp[intOf];omega
  ·obtain rfl:i=j:=by omega
   have hlt':¬ ((i:Int)<(i:Int)):=by omega
   have HBL:=Aa (show Ml (bs.map BAt.plain) kind name i from⟨by rw[List.length_map,en.out];exact hjn,hlo.out,fun t h h2=>hhi.out t h (by rw[List.length_map,en.out]at h2;exact h2)⟩);have hPL:=Aa (show (bs.map BAt.plain).length=n from by rw[List.length_map];exact en.out);by_cases hin:i<n
   ·obtain⟨D,r,T,eL,hD⟩:=Br bs i (by have:=en.out;omega);have hbl:=HB.out.below bw;have hrow:=hbl.1;rw[eL]at hrow;obtain⟨g,off,rfl,c0,c1,c2⟩:=hrow.block;obtain⟨ra,rc,er⟩:=(hbl.2 r (by rw[eL];simp)).1.form;rw[er]at c2;rw[hD]at c0 c1 c2;have HAT:=Aa (show Fg (bs.map BAt.plain) kind name i=blockCmp r.kind r.name kind name from by
     unfold Fg;rw[List.getElem?_map,eL,List.getElem?_append_right (by omega),hD,Nat.sub_self];rfl)
    have HC:∀ p:Gr wr,Calls Tryz.prog 51 #[.agg #[.string r.kind,.string r.name,.slice ra r.ls.length rc],.agg #[.string kind,.string name,.slice none 0 0]] p.u fun e w'=>e=.returned (.int .i64 (blockCmp r.kind r.name kind name))∧Below p.u.heap.size p.u w':=fun p=>(Gd r.kind r.name kind name r.ls.length 0 rc 0 ra none p.u).mono fun e w' h=>⟨h.1,h.2.1⟩
    have u0:=fun p:Gr wr=>Ap c0 p
    have u1:=fun p:Gr wr=>Ap c1 p
    have u2:=fun p:Gr wr=>Ap c2 p
    have v0:=fun p:Gr wr=>Ap k0 p
    have v1:=fun p:Gr wr=>Ap k1 p
    have v2:=fun p:Gr wr=>Ap k2 p
    have h0:(0:Int)≤(i:Int):=by omega
    have h1:(i:Int)<(n:Int):=by omega
    clear hbl hrow er eL hD c0 c1 c2 hlo hhi;generalize r.kind=rk at *;generalize r.name=rn at *;generalize r.ls.length=nr at *;generalize hcr:blockCmp rk rn kind name=cr at *;clear hcr;go_upto_region 8 with fail
    refine Bf (by kernel_rfl) (by kernel_rfl) ?_;iterate 11 quiet_step (fail)
    quiet_step ((go_at_call 51;refine Ff (HC _)))
    iterate 4 quiet_step (fail)
    refine wpQuiet_nil ?_;rintro wq ⟨⟨_,bq⟩,rfl⟩;have HO:=Aa (show Ii (bs.map BAt.plain) kind name w (.returned (.tuple #[.int .i64 (i:Int),.bool (cr == 0)])) wq from⟨i,cr == 0,rfl,HBL.out,by rw[hPL.out,HAT.out,beq_iff_eq];exact⟨fun h=>⟨hin,h⟩,fun h=>h.2⟩,G.trans ((bw.trans (bq.mono bw.size)).mono G.size)⟩);clear u0 u1 u2 v0 v1 v2 HC k0 k1 k2;go_wp2;go_ret2
    exact HO.out
   ·have h1:¬ (i:Int)<(n:Int):=by omega
    have HO:=Aa (show ∀ wq,Below wr.heap.size wr wq→Ii (bs.map BAt.plain) kind name w (.returned (.tuple #[.int .i64 (i:Int),.bool false])) wq from fun wq bq=>⟨i,false,rfl,HBL.out,by rw[hPL.out];exact⟨fun h=>Bool.noConfusion h,fun h=>absurd h.1 hin⟩,G.trans ((bw.trans (bq.mono bw.size)).mono G.size)⟩);clear hlo hhi;go_upto_region 8 with fail
    refine Bf (by kernel_rfl) (by kernel_rfl) ?_;iterate 5 quiet_step (fail)
    iterate 8 (with_reducible refine Bt ?_ ?_;kernel_rfl;simp only[Act.put,List.setIfInBounds_toArray,List.set_cons_zero,List.set_cons_succ])
    iterate 3 quiet_step (fail)
    refine wpQuiet_nil ?_;rintro wq ⟨⟨_,bq⟩,rfl⟩;have HO2:=Aa (HO.out wq bq);go_wp2;go_ret2
    exact HO2.out
theorem Ep(kind name:ByteArray)(hb:Aw w v bs)(hl:bs.length≤1048576)(hmono:∀ s t,s≤t→t<bs.length→Fg (bs.map BAt.plain) kind name t<0→Fg (bs.map BAt.plain) kind name s<0):Calls Tryz.prog 132 #[v,.agg #[.string kind,.string name]] w fun e w'=>Ii (bs.map BAt.plain) kind name w e w':=by
 obtain⟨ao,cap,rfl⟩:=hb.1.form;have G:=(Below.refl w.heap.size w).alloc (Nat.le_refl _) (.cells #[.string kind,.string name] 73);have HS:=Xc kind name (hb.below G) hl hmono;clear hb hmono;generalize bs.length=n at *;go_enter Tryz.func132,Tryz.ntmps132;go_wp2_with (go_at_call 176;refine HS.mono ?_)
 rintro e w2 ⟨i,f,rfl,h1,h2,b2⟩;have HO:=Aa (show Ii (bs.map BAt.plain) kind name w (.returned (.tuple #[.int .i64 (i:Int),.bool f])) w2 from⟨i,f,rfl,h1,h2,G.trans (b2.mono G.size)⟩);clear HS h1 h2 b2;go_wp2;go_ret2
 exact HO.out
theorem Gu{P:List PBlock}(h:P.Pairwise (fun a b=>blockLt a b=true))(kind name:ByteArray):∀ s t,s≤t→t<P.length→Fg P kind name t<0→Fg P kind name s<0:=by
 intro s t hst ht hc;rcases Nat.lt_or_ge s t with hlt | hge
 ·have hs:s<P.length:=by omega
  have h1:=List.pairwise_iff_getElem.1 h s t hs ht hlt;unfold Fg at hc ⊢;rw[List.getElem?_eq_getElem ht]at hc;rw[List.getElem?_eq_getElem hs];simp only at hc ⊢;have h2:=(Fw P[t] ⟨kind,name,[]⟩).1 hc;exact(Fw P[s] ⟨kind,name,[]⟩).2 (Fi _ _ _ h1 h2)
 ·have:s=t:=by omega
  rw[this];exact hc
variable {xa:Option Addr}{ys:List (List UInt8)}
theorem Rm{kx ky:ByteArray}{ya:Option Addr}{nx ny cx cy:Nat}{xs:List (List UInt8)}(h1:An w (.slice xa nx cx) xs.length 1 (strs xs))(h2:An w (.slice ya ny cy) ys.length 1 (strs ys))(hn:nx≤1048576)(hm:ny≤1048576):Calls Tryz.prog 178 #[.agg #[.string kx,.slice xa nx cx],.agg #[.string ky,.slice ya ny cy]] w fun e w'=>e=.returned (.bool (decide (xs=ys)))∧Below w.heap.size w w':=by
 have G:Below w.heap.size w ((w.alloc (.cells #[.string kx,.slice xa nx cx] 115)).alloc (.cells #[.string ky,.slice ya ny cy] 115)):=((Below.refl w.heap.size w).alloc (Nat.le_refl _) _).alloc (by simp) _;have HE:=Jz (h1.below G) (h2.below G) hn hm;clear h1 h2;go_enter Tryz.func178,Tryz.ntmps178;go_wp2_with (go_at_call 127;refine HE.mono ?_)
 rintro e w2 ⟨rfl,q2,rfl⟩;clear HE;go_wp2;go_ret;exact⟨rfl,below_drewN G q2⟩
theorem Zn{xs ys:List LAt}(h1:Ah w va xs)(h2:Ah w vb ys)(s1:Ae xs)(s2:Ae ys):Calls Tryz.prog 177 #[va,vb,.func (.func 178) #[] #[]] w fun e w'=>e=.returned (.bool (decide (xs.map LAt.ws=ys.map LAt.ws)))∧Below w.heap.size w w':=by
 obtain⟨ao,ca,rfl⟩:=h1.1.form;obtain⟨bo,cb,rfl⟩:=h2.1.form;by_cases hl:xs.length=ys.length
 ·have EN:=Aa hl;have H1:=Aa h1;have H2:=Aa h2;have S1:=Aa s1;have S2:=Aa s2;have hn2:xs.length≤1048576:=s1.1;rw[← hl];clear h1 h2 s1 s2 hl;generalize hn:xs.length=n at *;have en:=Aa hn;clear hn;have hnn:((n:Int) != (n:Int))=false:=by simp
  go_enter Tryz.func177,Tryz.ntmps177;go_wp2;go_loopw [17] (fun i wr=>∃ j:Nat,i=.int .i64 (j:Int)∧j≤n∧Hid ((xs.take j).map LAt.ws=(ys.take j).map LAt.ws)∧Below w.heap.size w wr) (fun i _=>n - (intOf i).toNat)
  case atStart=>exact⟨0,rfl,by omega,Aa (by simp),Below.refl _ _⟩
  case round =>
   obtain⟨j,rfl,hj,hA,bw⟩:=hrel;by_cases hlt:j<n
   ·obtain⟨D,x,T,e1,hD⟩:=Br xs j (by have:=en.out;omega);obtain⟨D',y,T',e2,hD'⟩:=Br ys j (by have:=EN.out;have:=en.out;omega);have hx:=H1.out.below bw;have hy:=H2.out.below bw;have hxm:x∈xs:=by rw[e1];simp
    have hym:y∈ys:=by rw[e2];simp
    have hxr:=hx.1;have hyr:=hy.1;rw[e1]at hxr;rw[e2]at hyr;obtain⟨g,off,rfl,c1,c2⟩:=hxr.line;obtain⟨g',off',rfl,d1,d2⟩:=hyr.line;have hxl:=hx.2 x hxm;have hyl:=hy.2 y hym;obtain⟨ax,cx,ex⟩:=An.form hxl;obtain⟨ay,cy,ey⟩:=An.form hyl;have hxw:=(S1.out.2 x hxm).1;have hyw:=(S2.out.2 y hym).1;unfold Dm at hxl hyl;rw[ex]at c2 hxl;rw[ey]at d2 hyl;simp only[hD]at c1 c2;simp only[hD']at d1 d2;have HNE:=Aa (show ¬ x.ws=y.ws→decide (xs.map LAt.ws=ys.map LAt.ws)=false from fun h=>decide_eq_false (fun e=>by
     have h0:=congrArg (fun l:List (List (List UInt8))=>l[j]?) e;simp only[List.getElem?_map,e1,e2,List.getElem?_append_right (show D.length≤j by omega),List.getElem?_append_right (show D'.length≤j by omega),hD,hD',Nat.sub_self,List.getElem?_cons_zero,Option.map_some]at h0;exact h (Option.some.inj h0)))
    have HEQ:=Aa (show x.ws=y.ws→(xs.take (j+1)).map LAt.ws=(ys.take (j+1)).map LAt.ws from fun h'=>by
     have t1:xs.take (j+1)=xs.take j++[x]:=by rw[e1,← hD,Ch,Cq]
     have t2:ys.take (j+1)=ys.take j++[y]:=by rw[e2,← hD',Ch,Cq]
     rw[t1,t2,List.map_append,List.map_append,hA.out,List.map_singleton,List.map_singleton,h'])
    have j0:(0:Int)≤(j:Int):=by omega
    have j1:(j:Int)<(n:Int):=by omega
    have bx:=(Below.refl wr.heap.size wr).alloc (Nat.le_refl _) (.cells #[.string x.key,.slice ax x.ws.length cx] 115);have by':=bx.alloc (by simp) (.cells #[.string y.key,.slice ay y.ws.length cy] 115)
    have f1:=(bx.cell (World.block_lt_of_cell? wr _ d1)).trans d1;have f2:=(bx.cell (World.block_lt_of_cell? wr _ d2)).trans d2;have zX:((wr.alloc (.cells #[.string x.key,.slice ax x.ws.length cx] 115)).alloc (.cells #[.string y.key,.slice ay y.ws.length cy] 115)).heap[wr.heap.size]?=some (.cells #[.string x.key,.slice ax x.ws.length cx] 115 (0,0)):=by
     have b1:=(Below.refl (wr.alloc (.cells #[.string x.key,.slice ax x.ws.length cx] 115)).heap.size (wr.alloc (.cells #[.string x.key,.slice ax x.ws.length cx] 115))).alloc (Nat.le_refl _) (.cells #[.string y.key,.slice ay y.ws.length cy] 115);rw[b1.block wr.heap.size (by simp)];exact Al wr _
    have zY:((wr.alloc (.cells #[.string x.key,.slice ax x.ws.length cx] 115)).alloc (.cells #[.string y.key,.slice ay y.ws.length cy] 115)).heap[wr.heap.size+1]?=some (.cells #[.string y.key,.slice ay y.ws.length cy] 115 (0,0)):=by
     have:=Al (wr.alloc (.cells #[.string x.key,.slice ax x.ws.length cx] 115)) (.cells #[.string y.key,.slice ay y.ws.length cy] 115);rw[World.size_alloc]at this;exact this
    have k0:=Ab zX 0;have k1:=Ab zX 1;have l0:=Ab zY 0;have l1:=Ab zY 1;simp only[List.getElem?_toArray,List.getElem?_cons_zero,List.getElem?_cons_succ]at k0 k1 l0 l1;have HW:=Rm (kx:=x.key) (ky:=y.key) (hxl.below by') (hyl.below by') hxw hyw;generalize hB:decide (x.ws=y.ws)=WB at HW;have EB:=Aa hB;clear hx hy hxm hym hxr hyr hxl hyl ex ey e1 e2 hD hD' hxw hyw d1 d2 hA hB zX zY;generalize x.key=xk at *;generalize y.key=yk at *;generalize x.ws.length=nx at *;generalize y.ws.length=ny at *;go_wp2_with (go_at_call 178;refine HW.mono ?_)
    rintro e w2 ⟨rfl,b2⟩;have B:=Aa (bw.trans ((by'.trans (b2.mono by'.size)).mono bw.size));clear bw bx by' b2 HW k0 k1 l0 l1 c1 c2 f1 f2
    cases WB
    ·have HF:=HNE.out (of_decide_eq_false EB.out);go_wp2;go_ret;exact⟨HF ▸ rfl,B.out⟩
    ·have HT:=Aa (HEQ.out (of_decide_eq_true EB.out));go_wp2;go_roundw;case rel=>exact⟨j+1,by go_num,by omega,HT,B.out⟩
     case measure=>simp[intOf];omega
   ·obtain rfl:j=n:=by omega
    have HT:=decide_eq_true (show xs.map LAt.ws=ys.map LAt.ws from by
     have h:=hA.out;have e:xs.length=ys.length:=en.out.trans EN.out;rw[← en.out,List.take_length,e,List.take_length]at h;exact h)
    clear hA;go_wp2;go_ret;exact⟨HT ▸ rfl,bw⟩
 ·have HF:=decide_eq_false (show ¬ xs.map LAt.ws=ys.map LAt.ws from fun e=>hl (by have:=congrArg List.length e;simpa using this));have hne:((xs.length:Int) != (ys.length:Int))=true:=by rw[bne_iff_ne];omega
  clear h1 h2 s1 s2 hl;generalize xs.length=n at *;generalize ys.length=m at *;go_enter Tryz.func177,Tryz.ntmps177;go_wp2;go_ret;exact⟨HF ▸ rfl,Below.refl _ _⟩
structure InJ(w:World)(R nl:Nat)(va:Option Addr)(vc:Nat)(bk bn:ByteArray)(bl:List LAt)(key:ByteArray)(ao:Option Addr)(nx c:Nat)(xs:List (List UInt8))(W:World):Prop where
 bw:Below w.heap.size w W
 sz:w.heap.size+2≤W.heap.size
 res:W.heap[w.heap.size+1]?=some (.cells #[.string ⟨#[]⟩,.string ⟨#[]⟩,.slice none 0 0] 46 (0,0))
 box:W.heap[w.heap.size]?=some (.cells #[.string bk,.string bn,.slice va nl vc] 46 (0,0))
 line:W.heap[R]?=some (.cells #[.string key,.slice ao nx c] 115 (0,0))
 hb:Cb W ⟨bk,bn,.slice va nl vc,bl⟩
 hx:An W (.slice ao nx c) nx 1 (strs xs)
def PjS(S X:Nat)(done:List PBlock)(W:World):Prop:=∃ sa sc bs,W.heap[S]?=some (.cells #[.slice sa bs.length sc] 25 (0,0))∧Aw W (.slice sa bs.length sc) bs∧bs.map BAt.plain=Ahh done∧Bk S (.slice sa bs.length sc) bs∧Bk X (.slice sa bs.length sc) bs∧∀ b∈bs,b.name.size≤1048576∧Ae b.ls
def PjO(S X k:Nat)(o:PBlock)(b:BAt)(W:World):Prop:=b.kind=o.kind∧b.name=o.name∧b.ls.map LAt.plain=Da (rulesOf o.kind) o.lines∧Cb W b∧Aj S b.v b.ls∧Aj X b.v b.ls∧Ae b.ls∧b.ls.length≤k∧b.name.size≤1048576
def PjB(S X k:Nat)(op:Option PBlock)(W:World):Prop:=∃(b:BAt) (a:Option Addr) (n c:Nat),b.v=.slice a n c∧W.heap[X]?=some (.cells #[.string b.kind,.string b.name,.slice a n c] 46 (0,0))∧∀ o,op=some o→PjO S X k o b W
structure PJ(w:World)(S X:Nat)(lv:Value)(ls:List (List UInt8))(k:Nat)(done:List PBlock)(op:Option PBlock)(W:World):Prop where
 bw:Below w.heap.size w W
 r0:W.heap[w.heap.size]?=some (.cells #[.slice none 0 0] 25 (0,0))
 r1:W.heap[w.heap.size+1]?=some (.cells #[.int .i64 0,.int .i64 0] 38 (0,0))
 row:An W lv ls.length 1 (strs ls)
 fs:Cr S lv ls.length
 fx:Cr X lv ls.length
 sx:w.heap.size+2≤S∧S<X
 sb:PjS S X done W
 bb:PjB S X k op W
variable {M:Nat}
theorem Fd(M:Nat)(w:World):Calls Tryz.prog 173 #[.pointer (some ⟨M,0,none⟩),.bool true] w fun e w'=>e=.returned (.tuple #[])∧w'=w:=by
 go_enter Tryz.func173,Tryz.ntmps173;go_wp2;go_end0
 exact⟨rfl,rfl⟩
theorem C4{p:Int}(hm:w.cell? ⟨M,1,none⟩=some (.int .i64 p)):Calls Tryz.prog 173 #[.pointer (some ⟨M,0,none⟩),.bool false] w fun e w'=>e=.panicked [{ v:=.iface 173 (.agg #[.int .i64 p]),recovered:=false }]∧w'=w:=by
 go_enter Tryz.func173,Tryz.ntmps173;go_wp2;exact⟨rfl,rfl,rfl⟩
end Go.Proofs.YtpdahhnjhggocaaGreatDoor
