import Derived.Test.YtpdahhnjhggocaaGreatDoorMz21
import Derived.Test.YtpdahhnjhggocaaGreatDoorMz24
namespace Go.Proofs.YtpdahhnjhggocaaGreatDoor
open Go.RowKit
set_option maxHeartbeats 16000000
set_option maxRecDepth 100000
variable {α β:Type}{v:Value}{w:World}
theorem Ae6{f:α→β}{xs ys:List α}(h:xs.map f=ys.map f)(j:Nat)(hj:j<xs.length):∃ D x T D' y T',xs=D++x::T∧ys=D'++y::T'∧D.length=j∧D'.length=j∧f x=f y:=by
 have hl:xs.length=ys.length:=by have:=congrArg List.length h;simpa using this
 refine⟨xs.take j,xs[j],xs.drop (j+1),ys.take j,ys[j]'(by omega),ys.drop (j+1),by simp,by simp,by simp;omega,by simp;omega,?_⟩;have:=congrArg (fun l=>l[j]?) h;simp only[List.getElem?_map]at this;rw[List.getElem?_eq_getElem hj,List.getElem?_eq_getElem (by omega)]at this;simpa using this
theorem X7{u:Value}{xs ys:List A6}(h1:Dj w v xs)(h2:Dj w u ys)(he:xs.map A6.plain=ys.map A6.plain)(hs:xs.length≤1048576∧∀ x∈xs,Ae x.ls):Calls Tryz.prog 35 #[v,u] w fun e w'=>e=.returned (.bool true)∧Below w.heap.size w w':=by
 obtain⟨ao,ca,rfl⟩:=h1.1.form;obtain⟨bo,cb,rfl⟩:=h2.1.form;have hl:ys.length=xs.length:=by have:=congrArg List.length he;simpa using this.symm
 rw[hl];rw[hl]at h2;have hn:=hs.1;generalize hN:xs.length=n at *;have en:=Aa hN;clear hN hl;have hn0:((n:Int) != (n:Int))=false:=by simp
 go_enter Tryz.func35,Tryz.ntmps35;go_wp2;go_loopw [5] (fun i wr=>∃ j:Nat,j≤n∧i=.int .i64 (j:Int)∧Below w.heap.size w wr) (fun i _=>n - (intOf i).toNat)
 case atStart=>exact⟨0,by omega,rfl,Below.refl _ _⟩
 case round =>
  obtain⟨j,hj,rfl,bw⟩:=hrel;by_cases hlt:j<n
  ·obtain⟨D,x,T,D',y,T',e1,e2,hD,hD',hxy⟩:=Ae6 he j (by have:=en.out;omega);have h5:=h1.below bw;have h6:=h2.below bw;have hxm:x∈xs:=by rw[e1];simp
   have hym:y∈ys:=by rw[e2];simp
   have h7:=h5;have h8:=h6;rw[e1]at h7;rw[e2]at h8;obtain⟨g,off,rfl,c1,c2,c3,c4,c5⟩:=h7.1.change;obtain⟨g',off',rfl,d1,d2,d3,d4,d5⟩:=h8.1.change;rw[hD]at c1 c2 c3 c4 c5;rw[hD']at d1 d2 d3 d4 d5;rw[← show x.what=y.what from congrArg PChange.what hxy]at d1;rw[← show x.kind=y.kind from congrArg PChange.kind hxy]at d2;rw[← show x.name=y.name from congrArg PChange.name hxy]at d3;rw[← show x.key=y.key from congrArg PChange.key hxy]at d4;have HX:∀ p:Gr wr,Calls Tryz.prog 31 #[x.v,y.v] p.u fun e w'=>e=.returned (.bool true)∧Below p.u.heap.size p.u w':=fun p=>by
    have:=X0 ((h5.2 x hxm).below p.h) ((h6.2 y hym).below p.h) (hs.2 x hxm);rw[Fm (show x.ls.map LAt.plain=y.ls.map LAt.plain from congrArg PChange.lines hxy)]at this;exact this
   have k1:=fun p:Gr wr=>Ap c1 p
   have q1:=fun p:Gr wr=>Ap d1 p
   have k2:=fun p:Gr wr=>Ap c2 p
   have q2:=fun p:Gr wr=>Ap d2 p
   have k3:=fun p:Gr wr=>Ap c3 p
   have q3:=fun p:Gr wr=>Ap d3 p
   have k4:=fun p:Gr wr=>Ap c4 p
   have q4:=fun p:Gr wr=>Ap d4 p
   have k5:=fun p:Gr wr=>Ap c5 p
   have q5:=fun p:Gr wr=>Ap d5 p
   obtain⟨ax,cx,ex⟩:=(h5.2 x hxm).1.form;obtain⟨ay,cy,ey⟩:=(h6.2 y hym).1.form;rw[ex]at k5;rw[ey]at q5;simp only[ex,ey]at HX;have i0:(0:Int)≤(j:Int):=by omega
   have i1:(j:Int)<(n:Int):=by omega
   clear h1 h2 h5 h6 h7 h8 hs he e1 e2 hxy c1 c2 c3 c4 c5 d1 d2 d3 d4 d5 hxm hym ex ey;generalize x.ls.length=nx at *;generalize y.ls.length=ny at *;generalize x.what=xw at *;generalize x.kind=xk at *;generalize x.name=xn at *;generalize x.key=xy at *;have o1:((xw:Int) != xw)=false:=by simp
   have o2:(xk.toList != xk.toList)=false:=by simp
   have o3:(xn.toList != xn.toList)=false:=by simp
   have o4:(xy.toList != xy.toList)=false:=by simp
   go_upto_region 6 with fail
   refine Bf (by kernel_rfl) (by kernel_rfl) ?_;iterate 61 quiet_step (fail)
   quiet_step ((go_at_call 31;refine Ff (HX _)))
   iterate 2 quiet_step (fail)
   refine wpQuiet_nil ?_;rintro _ ⟨⟨wq,bq⟩,rfl⟩;go_wp2;go_roundw;case rel=>exact⟨j+1,by omega,by go_num,bw.trans (bq.mono bw.size)⟩
   case measure=>simp[intOf];omega
  ·obtain rfl:j=n:=by omega
   clear h1 h2 hs he;go_wp2;go_ret;exact⟨rfl,bw⟩
end Go.Proofs.YtpdahhnjhggocaaGreatDoor
