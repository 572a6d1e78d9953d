import Derived.Test.YtpdahhnjhggocaaGreatDoorMz6
import Derived.Laws.Rows
import Derived.Laws.Bits64
import Derived.OpenShut
namespace Go.Proofs.YtpdahhnjhggocaaGreatDoor
open Go.RowKit
set_option maxHeartbeats 16000000
set_option maxRecDepth 100000
variable {B p k:Nat}{w w':World}
theorem Agl(a b:Nat)(ha:a<4611686018427387904)(hb:b<4611686018427387904):bits .xor .i64 (a:Int) (b:Int)=((a ^^^ b:Nat):Int):=by
 have hx:a ^^^ b<2 ^ 62:=Nat.xor_lt_two_pow (by omega) (by omega);have h1:(BitVec.ofInt 64 (a:Int)).toNat=a:=by
  rw[BitVec.ofInt_natCast,BitVec.toNat_ofNat];exact Nat.mod_eq_of_lt (by omega)
 have h2:(BitVec.ofInt 64 (b:Int)).toNat=b:=by
  rw[BitVec.ofInt_natCast,BitVec.toNat_ofNat];exact Nat.mod_eq_of_lt (by omega)
 show IntKind.i64.wrap ((BitVec.ofInt 64 (a:Int) ^^^ BitVec.ofInt 64 (b:Int)).toNat:Int)=_
 rw[BitVec.toNat_xor,h1,h2,IntKind.wrap_i64];omega
def Rd(B:Nat)(w:World)(p k:Nat):Prop :=
 B≤p∧∃(a:Option Addr) (len cap:Nat),w.heap[p]?=some (.cells #[.slice a len cap,.int .i64 (k:Int)] 152 (0,0))∧len≤2000 ∧
  (len=0∨∃ b off,a=some ⟨b,off,none⟩∧b<B∧∀ i,i<len→∃ z:Nat,z<256∧w.cell? ⟨b,off+i,none⟩=some (.int .u8 (z:Int)))
theorem Rd.lt(h:Rd B w p k):p<w.heap.size:=by
 obtain⟨_,_,_,_,hb,_⟩:=h;exact(Array.getElem?_eq_some_iff.1 hb).1
theorem Rd.kept(h:Rd B w p k)(hg:w.grownBy w' none):Rd B w' p k:=by
 have hp:=h.lt;obtain⟨hB,a,len,cap,hb,hl,hrest⟩:=h;refine⟨hB,a,len,cap,by rw[hg.block p hp (by simp)];exact hb,hl,?_⟩;rcases hrest with h0 | ⟨b,off,ha,hbB,hc⟩
 ·exact Or.inl h0
 ·refine Or.inr ⟨b,off,ha,hbB,fun i hi=>?_⟩;obtain⟨z,hz,hcell⟩:=hc i hi;exact⟨z,hz,hg.cell hcell (by simp)⟩
theorem Rd.below(h:Rd B w p k)(hb:Below w.heap.size w w'):Rd B w' p k:=h.kept (Bs hb none)
theorem Rd.step(h:Rd B w p k):Rd B (w.setCell ⟨p,1,none⟩ (.int .i64 ((k:Int)+1))) p (k+1)∧w.grownBy (w.setCell ⟨p,1,none⟩ (.int .i64 ((k:Int)+1))) (some p):=by
 obtain⟨hB,a,len,cap,hb,hl,hrest⟩:=h;have hg:w.grownBy (w.setCell ⟨p,1,none⟩ (.int .i64 ((k:Int)+1))) (some p):=⟨rfl,rfl,rfl,by simp,fun i _ hi=>heap_setCell_other w ⟨p,1,none⟩ i _ (fun e=>hi (by simp[e]))⟩;refine⟨⟨hB,a,len,cap,by rw[heap_setCell_same w p 1 _ _ _ hb];rfl,hl,?_⟩,hg⟩;rcases hrest with h0 | ⟨b,off,ha,hbB,hc⟩
 ·exact Or.inl h0
 ·refine Or.inr ⟨b,off,ha,hbB,fun i hi=>?_⟩;obtain⟨z,hz,hcell⟩:=hc i hi;exact⟨z,hz,hg.cell hcell (by simp;omega)⟩
def Aho(n B p k:Nat)(w:World)(e:Ending)(w':World):Prop :=
 ∃ x:Nat,x<n∧e=.returned (.int .i64 (x:Int))∧Rd B w' p (k+1)∧w.grownBy w' (some p)
theorem Xk(h:Rd B w p k)(q:Nat):Rd B (w.drewN q) p k:=h
theorem Xl{row:Option Nat}(h:w.grownBy w' row)(q:Nat):w.grownBy (w'.drewN q) row:=⟨h.os,h.tape,h.output,h.size,h.block⟩
theorem O4(n:Nat)(h:n<4611686018427387904):wrap64 (n:Int)=(n:Int):=by unfold wrap64;omega
theorem Aeg(z1 z2 k len n:Nat)(h1:z1<256)(h2:z2<256)(hk:k≤1000000)(_hl:1≤len)(hn:1≤n):
  ∃ x:Nat,x<n∧(bits .xor .i64 (wrap64 ((z1:Int) * 131+(z2:Int) * 1117+(k:Int) * 29+wrap64 (wrap64 ((k:Int) / (len:Int)) * 53))) (wrap64 ((wrap64 ((z1:Int) * 131+(z2:Int) * 1117+(k:Int) * 29+wrap64 (wrap64 ((k:Int) / (len:Int)) * 53))).tdiv 64))).tmod (n:Int)=(x:Int):=by
 have hd:k / len≤k:=Nat.div_le_self _ _;have e1:(k:Int) / (len:Int)=((k / len:Nat):Int):=(Int.natCast_ediv _ _).symm;rw[e1,O4 _ (by omega),show ((k / len:Nat):Int) * 53=((k / len * 53:Nat):Int) from by omega,O4 _ (by omega)];rw[show (z1:Int) * 131+(z2:Int) * 1117+(k:Int) * 29+((k / len * 53:Nat):Int)=((z1 * 131+z2 * 1117+k * 29+k / len * 53:Nat):Int) from by omega];have hN:z1 * 131+z2 * 1117+k * 29+k / len * 53<4611686018427387904:=by omega
 generalize z1 * 131+z2 * 1117+k * 29+k / len * 53=N at *;rw[O4 N hN];have e2:(N:Int).tdiv 64=((N / 64:Nat):Int):=by rw[Int.tdiv_eq_ediv_of_nonneg (by omega)];omega
 rw[e2,O4 _ (by omega),Agl N (N / 64) hN (by omega)];refine⟨(N ^^^ N / 64) % n,Nat.mod_lt _ (by omega),?_⟩;rw[Int.tmod_eq_emod_of_nonneg (by omega)];exact(Int.natCast_emod _ _).symm
theorem Bn(B p k n:Nat)(w:World)(h:Rd B w p k)(hn:1≤n)(hn2:n≤1000)(hk:k≤1000000):
  Calls Tryz.prog 44 #[.pointer (some ⟨p,0,none⟩),.int .i64 (n:Int)] w fun e w'=>Aho n B p k w e w':=by
 have hst:=h.step;obtain⟨hB,a,len,cap,hb,hl,hrest⟩:=h;have c0:w.cell? ⟨p,0,none⟩=some (.slice a len cap):=by rw[Lib.cell_of_heap hb];rfl
 have c1:w.cell? ⟨p,1,none⟩=some (.int .i64 (k:Int)):=by rw[Lib.cell_of_heap hb];rfl
 have f1:w.frozen? ⟨p,1,none⟩=false:=Lib.frozen_of_heap hb 1;have hn':¬ (n:Int)<1:=by omega
 by_cases h0:len=0
 ·have h0':((len:Int) == 0)=true:=by rw[beq_iff_eq];omega
  clear hrest;go_enter Tryz.func44,Tryz.ntmps44;go_wp2;go_ret;exact⟨0,by omega,rfl,hst.1,hst.2⟩
 ·have h0':((len:Int) == 0)=false:=by rw[beq_eq_false_iff_ne];omega
  rcases hrest with h1 | ⟨b,off,rfl,hbB,hc⟩
  ·exact absurd h1 h0
  ·have hne:¬ b=p:=by omega
   have hne':¬ p=b:=by omega
   by_cases hlt:k<len
   ·obtain⟨z,hz,hcell⟩:=hc k hlt;have hx:=Nat.mod_lt z (show 0<n by omega);have hnz:((n:Int) == 0)=false:=by rw[beq_eq_false_iff_ne];omega
    go_enter Tryz.func44,Tryz.ntmps44;go_wp2;go_ret;exact⟨z % n,hx,by simp,hst.1,hst.2⟩
   ·have d1:k % len<len:=Nat.mod_lt _ (by omega);have d2:(k * 7+3) % len<len:=Nat.mod_lt _ (by omega);obtain⟨z1,hz1,hcell1⟩:=hc _ d1;obtain⟨z2,hz2,hcell2⟩:=hc _ d2;have hdv:k / len≤k:=Nat.div_le_self _ _;have r1:(0:Int)≤(k:Int) % (len:Int):=Int.emod_nonneg _ (by omega);have r2:(k:Int) % (len:Int)<(len:Int):=Int.emod_lt_of_pos _ (by omega);have r3:(0:Int)≤((k:Int) * 7+3) % (len:Int):=Int.emod_nonneg _ (by omega);have r4:((k:Int) * 7+3) % (len:Int)<(len:Int):=Int.emod_lt_of_pos _ (by omega);have t1:((k:Int) % (len:Int)).toNat=k % len:=by rw[← Int.natCast_emod];exact Int.toNat_natCast _
    have t2:(((k:Int) * 7+3) % (len:Int)).toNat=(k * 7+3) % len:=by rw[show ((k:Int) * 7+3)=((k * 7+3:Nat):Int) from by omega,← Int.natCast_emod];exact Int.toNat_natCast _
    go_enter Tryz.func44,Tryz.ntmps44;go_wp2;go_quiet (fail)
    go_wp2;go_ret;obtain⟨x,hx,ex⟩:=Aeg z1 z2 k len n hz1 hz2 hk (by omega) (by omega);exact⟨x,hx,Dp ex,Xk hst.1 _,Xl hst.2 _⟩
theorem Sq(u:ByteArray)(m q:Nat)(hq:2 * q≤m)(hb:u.size * m≤1000000):q=0∨(u++u).size≤1000000:=by
 by_cases h:q=0
 ·exact Or.inl h
 ·right;rw[ByteArray.size_append];have:u.size * 2≤u.size * m:=Nat.mul_le_mul (Nat.le_refl _) (by omega);omega
theorem Lw(s:ByteArray)(n:Nat)(w:World)(hs:s.size≤1000)(hn:n≤1000):Calls Tryz.prog 80 #[.string s,.int .i64 (n:Int)] w fun e w'=>∃ t:ByteArray,t.size=s.size * n∧e=.returned (.string t)∧w'=w:=by
 go_enter Tryz.func80,Tryz.ntmps80;go_wp2;go_loop [0,1,5] (fun x i o=>∃(u t:ByteArray) (m:Nat),x=.string u∧i=.int .i64 (m:Int)∧o=.string t∧m≤1000∧t.size+u.size * m=s.size * n∧u.size≤2000000∧(m=0∨u.size≤1000000)) (fun _ i _=>(intOf i).toNat)
 case atStart=>exact⟨s,⟨#[]⟩,n,rfl,rfl,rfl,hn,by show 0+_=_;omega,by omega,Or.inr (by omega)⟩
 case round =>
  obtain⟨u,t,m,rfl,rfl,rfl,hm,hsz,hu,hmu⟩:=hrel;by_cases h0:m=0
  ·subst h0;go_wp2;go_ret;exact⟨t,by omega,rfl,rfl⟩
  ·have h1:(0:Int)<(m:Int):=by omega
   have hb:u.size * m≤1000000:=by
    have:s.size * n≤1000 * 1000:=Nat.mul_le_mul hs hn;omega
   have hu1:u.size≤u.size * m:=Nat.le_mul_of_pos_right _ (by omega);have hts:t.size≤1000000:=by
    have:s.size * n≤1000 * 1000:=Nat.mul_le_mul hs hn;omega
   by_cases hodd:m % 2=1
   ·have ho:((m:Int) % 2 == 1)=true:=by rw[beq_iff_eq];omega
    have key:(t++u).size+(u++u).size * (m / 2)=s.size * n:=by
     have e:m=2 * (m / 2)+1:=by omega
     rw[ByteArray.size_append,ByteArray.size_append];rw[e]at hsz;generalize m / 2=q at *;rw[Nat.mul_add,Nat.mul_one,← Nat.mul_assoc]at hsz;rw[Nat.add_mul];have:u.size * 2 * q=u.size * q+u.size * q:=by rw[Nat.mul_two,Nat.add_mul]
     omega
    go_wp2;go_round
    case rel=>exact⟨u++u,t++u,m / 2,rfl,by go_num,rfl,by omega,key,by rw[ByteArray.size_append];omega,Sq u m (m / 2) (by omega) hb⟩
    case measure=>simp[intOf];omega
   ·have ho:((m:Int) % 2 == 1)=false:=by rw[beq_eq_false_iff_ne];omega
    have key:t.size+(u++u).size * (m / 2)=s.size * n:=by
     have e:m=2 * (m / 2):=by omega
     rw[ByteArray.size_append];rw[e]at hsz;generalize m / 2=q at *;rw[← Nat.mul_assoc]at hsz;rw[Nat.add_mul];have:u.size * 2 * q=u.size * q+u.size * q:=by rw[Nat.mul_two,Nat.add_mul]
     omega
    go_wp2;go_round
    case rel=>exact⟨u++u,t,m / 2,rfl,by go_num,rfl,by omega,key,by rw[ByteArray.size_append];omega,Sq u m (m / 2) (by omega) hb⟩
    case measure=>simp[intOf];omega
def Mq(M B p:Nat)(w:World)(e:Ending)(w':World)(k d:Nat):Prop :=
 ∃(t:ByteArray) (k':Nat),t.size≤M∧k'≤k+d∧e=.returned (.string t)∧Rd B w' p k'∧w.grownBy w' (some p)
theorem Dk(h:w.grownBy w' none)(row:Option Nat):w.grownBy w' row:=⟨h.os,h.tape,h.output,h.size,fun i hi _=>h.block i hi (by simp)⟩
theorem Ik(w1 w2:World)(l:List ByteArray)(M y p:Nat)(hM:∀ u∈l,u.size≤M)(hy:y<l.length)(hg:(w1.alloc (.cells (l.map Value.string).toArray 9)).grownBy w2 (some p))(hp:p<w1.heap.size):
  ∃ u:ByteArray,u.size≤M∧w2.cell? ⟨w1.heap.size,y,none⟩=some (.string u):=by
 refine⟨l[y],hM _ (List.getElem_mem _),hg.cell ?_ (by simp;omega)⟩;rw[Lib.cell_of_heap (heap_alloc_new w1 _)];simp[hy]
theorem Zs(B p k:Nat)(w:World)(h:Rd B w p k)(hk:k≤900000):
  Calls Tryz.prog 243 #[.pointer (some ⟨p,0,none⟩)] w fun e w'=>Mq 200 B p w e w' k 2:=by
 go_enter Tryz.func243,Tryz.ntmps243;go_wp2_with (go_at_call 44;refine(Bn B p k 2 w h (by omega) (by omega) (by omega)).mono ?_)
 rintro e w1 ⟨x,hx,rfl,h1,g1⟩;have hm:=Lw ⟨#[116]⟩ (200 - x) w1 (by decide) (by omega);have ex:((200 - x:Nat):Int)=200 - (x:Int):=by omega
 rw[ex]at hm;clear ex;go_wp2_with (go_at_call 80;refine hm.mono ?_)
 rintro e w1 ⟨t,ht,rfl,rfl⟩;clear hm;go_wp2_with (go_at_call 44;refine(Bn B p (k+1) 8 _ (h1.below ((Below.refl _ _).alloc (Nat.le_refl _) _)) (by omega) (by omega) (by omega)).mono ?_)
 rintro e w2 ⟨y,hy,rfl,h2,g2⟩;have ht':t.size≤200:=by rw[ht];show 1 * (200 - x)≤200;omega
 obtain⟨u,hu,hc⟩:=Ik w1 w2 [⟨#[122,111,110,101,61,101,97,115,116]⟩,⟨#[115,115,100,32,124,32,33,111,108,100]⟩,⟨#[]⟩,⟨#[113,34,117,92,111,10,255]⟩,⟨#[97,35,98]⟩,⟨#[120]⟩,⟨#[116,119,111,32,119,111,114,100,115]⟩,t] 200 y p (by intro u hu;simp only[List.mem_cons,List.not_mem_nil,or_false]at hu;rcases hu with rfl | rfl | rfl | rfl | rfl | rfl | rfl | rfl;all_goals first | exact ht' | decide) hy g2 h1.lt
 go_wp2;go_ret;exact⟨u,k+1+1,hu,by omega,rfl,h2,A1 g1 (A1 (Dk (World.grownBy_alloc _ _ _) _) g2)⟩
end Go.Proofs.YtpdahhnjhggocaaGreatDoor
