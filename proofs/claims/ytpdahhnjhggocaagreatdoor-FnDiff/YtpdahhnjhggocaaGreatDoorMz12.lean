import Derived.Test.YtpdahhnjhggocaaGreatDoorMz5
import Derived.Test.YtpdahhnjhggocaaGreatDoorMz8
import Derived.Lib.AppendIntMem
namespace Go.Proofs.YtpdahhnjhggocaaGreatDoor
open Go.RowKit
set_option maxHeartbeats 16000000
set_option maxRecDepth 100000
variable {g:Nat}{cs:Array Value}{w w':World}{l:List UInt8}
structure Dx(w:World):Prop where
 syn : ∃ tp p, w.var? Tryz.prog "strconv.ErrSyntax" = some #[.iface tp p]
 ran : ∃ tp p, w.var? Tryz.prog "strconv.ErrRange" = some #[.iface tp p]
 tab : Lib.TabIs Tryz.prog w "internal/strconv.uint64pow10" .u64 Lib.pow10Tab
theorem M2{n:String}(hg:Tryz.prog.globalNamed n=some g)(hv:w.var? Tryz.prog n=some cs)(hb:Below w.heap.size w w'):w'.var? Tryz.prog n=some cs:=by
 refine var?_below hb hg ?_ hv;unfold World.var? at hv;rw[hg,Option.bind_some]at hv;rcases Nat.lt_or_ge g w.heap.size with h | h
 ·exact h
 ·rw[Array.getElem?_eq_none h]at hv;simp at hv
theorem Dx.below(h:Dx w)(hb:Below w.heap.size w w'):Dx w':=by
 obtain⟨⟨tp,p,h1⟩,⟨tq,q,h2⟩,h3⟩:=h;exact⟨⟨tp,p,M2 (g:=4) (by kernel_rfl) h1 hb⟩,⟨tq,q,M2 (g:=5) (by kernel_rfl) h2 hb⟩,M2 (g:=3) (by kernel_rfl) h3 hb⟩
theorem Afu(s:ByteArray)(hs:s.size≤1048576)(v:Int)(h:Lib.atoiAll s.data.toList=.ok v)(w:World)(hst:Dx w):Calls Tryz.prog 262 #[.string s] w fun e w'=>e=.returned (.tuple #[.int .i64 v,.nilIface])∧Below w.heap.size w w'∧Dx w':=by
 refine(strconv_Atoi_ok s (by omega) v h w).mono ?_;rintro e w' ⟨rfl,hw⟩;have hb:Below w.heap.size w w':=by
  rcases hw with rfl | ⟨t,rfl⟩
  ·exact Below.refl _ _
  ·exact⟨rfl,rfl,rfl,by rw[Lib.bytesWorld_size];omega,fun k hk=>Lib.bytesWorld_at_old w 5 t k (by omega)⟩
 exact⟨rfl,hb,hst.below hb⟩
theorem Ade(s:ByteArray)(hs:s.size≤1048576)(h:∀ v,Lib.atoiAll s.data.toList≠.ok v)(w:World)(hst:Dx w):Calls Tryz.prog 262 #[.string s] w fun e w'=>∃ v N,e=.returned (.tuple #[.int .i64 v,.iface 344 (.pointer (some ⟨N,0,none⟩))])∧Below w.heap.size w w':=by
 obtain⟨⟨tp,p,h1⟩,⟨tq,q,h2⟩,h3⟩:=hst;cases ha:Lib.atoiAll s.data.toList with
 | ok v=>exact absurd ha (h v)
 | «syntax» =>
  refine(strconv_Atoi_syntax_var s (by omega) ha tp p w h1).mono ?_;rintro e w' ⟨N,rfl,_,_,hb⟩;exact⟨_,N,rfl,hb⟩
 | range =>
  refine(strconv_Atoi_range_var s (by omega) ha tq q w h2).mono ?_;rintro e w' ⟨N,rfl,_,_,hb⟩;exact⟨_,N,rfl,hb⟩
theorem Adf(n:Int)(h0:-9223372036854775808≤n)(h1:n≤9223372036854775807)(w:World)(hst:Dx w):Calls Tryz.prog 216 #[.int .i64 n] w fun e w'=>e=.returned (.string ⟨(Lib.itoa n).toArray⟩)∧Below w.heap.size w w':=by
 refine(strconv_Itoa n h0 h1 w hst.tab).mono ?_;rintro e w' ⟨rfl,k,os,rfl⟩;exact⟨rfl,Lib.below_grow _ _ (Nat.le_refl _) _ _⟩
theorem Afv{least v:Int}(h:Lib.atoiAll l=.ok v):decB least l=(decide (least≤v) && decide (v≤1000000) && Lib.itoa v == l):=by unfold decB;rw[h]
theorem Adg{least:Int}(h:∀ v,Lib.atoiAll l≠.ok v):decB least l=false:=by
 unfold decB;split
 ·rename_i v hv;exact absurd hv (h v)
 ·rfl
theorem K7(s:ByteArray)(least:Int)(w:World)(hs:s.size≤1048576)(hst:Dx w):Calls Tryz.prog 246 #[.string s,.int .i64 least] w fun e w'=>e=.returned (.bool (decB least s.data.toList))∧Below w.heap.size w w':=by
 by_cases hok:∃ v,Lib.atoiAll s.data.toList=.ok v
 ·obtain⟨v,ha⟩:=hok;obtain⟨hv0,hv1⟩:=Lib.atoiAll_bounds ha;have HB:=Afv (least:=least) ha;have H1:=fun W hW=>Afu s hs v ha W hW
  have H2:=fun W hW=>Adf v hv0 hv1 W hW
  rw[← ByteArray.toList_eq]at HB ⊢;generalize decB least s.toList=B at HB ⊢;generalize hI:Lib.itoa v=I at HB H2;clear ha hI;by_cases h1:v<least
  ·have h1':¬ least≤v:=by omega
   have HB':=Aa (show false=B by rw[HB];simp[h1']);clear HB;go_enter Tryz.func246,Tryz.ntmps246;go_wp2_with (go_at_call 262;refine(H1 _ hst).mono ?_;rintro e w1 ⟨rfl,b1,st1⟩)
   go_ret;exact⟨Av HB'.out,b1⟩
  ·by_cases h2:(1000000:Int)<v
   ·have h2':¬ v≤1000000:=by omega
    have HB':=Aa (show false=B by rw[HB];simp[h2']);clear HB;go_enter Tryz.func246,Tryz.ntmps246;go_wp2_with (go_at_call 262;refine(H1 _ hst).mono ?_;rintro e w1 ⟨rfl,b1,st1⟩)
    go_ret;exact⟨Av HB'.out,b1⟩
   ·have HB':=Aa (show (I == s.toList)=B by rw[HB,decide_eq_true (by omega:least≤v),decide_eq_true (by omega:v≤1000000)];rfl);clear HB;go_enter Tryz.func246,Tryz.ntmps246;go_wp2_with (first | (go_at_call 262;refine(H1 _ hst).mono ?_;rintro e w1 ⟨rfl,b1,st1⟩) | (go_at_call 216;refine(H2 _ st1).mono ?_;rintro e w2 ⟨rfl,b2⟩))
    go_ret;exact⟨Av HB'.out,b1.trans (b2.mono b1.size)⟩
 ·have hno:∀ v,Lib.atoiAll s.data.toList≠.ok v:=fun v h=>hok ⟨v,h⟩
  rw[Adg hno];go_enter Tryz.func246,Tryz.ntmps246;go_wp2_with (go_at_call 262;refine(Ade s hs hno _ hst).mono ?_;rintro e w1 ⟨v,N,rfl,b1⟩)
  go_ret;exact⟨rfl,b1⟩
theorem Kd(c:UInt8)(w:World):Calls Tryz.prog 179 #[.int .u8 (c.toNat:Int)] w fun e w'=>e=.returned (.bool (nameByte c))∧w'=w:=by
 have hc:c.toNat<256:=c.toNat_lt;have hcase:=We c;generalize nameByte c=B at hcase ⊢;cases hcase
 all_goals
  go_enter Tryz.func179,Tryz.ntmps179;go_wp2;go_ret;exact⟨Av (by simp_all),rfl⟩
theorem Adh{s:ByteArray}(h:Es s s.size):nameB s.data.toList=(decide ((1:Int)≤(s.size:Int)) && decide ((s.size:Int)≤20)):=by
 rw[R3 s h.all];congr 1 <;> exact decide_eq_decide.2 (by omega)
theorem Pr(s:ByteArray)(w:World)(hs:s.size≤1048576):Calls Tryz.prog 134 #[.string s] w fun e w'=>e=.returned (.bool (nameB s.data.toList))∧w'=w:=by
 go_enter Tryz.func134,Tryz.ntmps134;go_wp2;go_loop [6] (fun i=>∃ k:Nat,k≤s.size∧i=.int .i64 (k:Int)∧Es s k) (fun i=>s.size - (intOf i).toNat)
 case atStart=>exact⟨0,Nat.zero_le _,rfl,Es.zero s⟩
 case round =>
  obtain⟨k,hk,rfl,hA⟩:=hrel;by_cases hlt:k<s.size
  ·have hc:s[k].toNat<256:=s[k].toNat_lt;cases hb:nameByte s[k]
   ·have HB:=Aa (Wd s (Ys nameByte s k hlt hb)).symm;have H1:=fun W=>Kd s[k] W
    rw[hb]at H1;clear hA hb;go_wp2_with (go_at_call 179;refine(H1 _).mono ?_;rintro e w ⟨rfl,rfl⟩)
    go_ret;exact⟨Av HB.out,rfl⟩
   ·have HA:=hA.succ hlt hb;have H1:=fun W=>Kd s[k] W
    rw[hb]at H1;clear hA hb;go_wp2_with (go_at_call 179;refine(H1 _).mono ?_;rintro e w ⟨rfl,rfl⟩)
    go_round
    case rel=>exact⟨k+1,by omega,by go_num,HA⟩
    case measure=>simp[intOf];omega
  ·obtain rfl:k=s.size:=by omega
   have HB:=Aa (Adh hA).symm;clear hA;by_cases h1:(1:Int)≤(s.size:Int)
   ·have HB':=Aa (show decide ((s.size:Int)≤20)=nameB s.data.toList by rw[← HB.out,decide_eq_true h1,Bool.true_and]);clear HB;go_wp2;go_ret;exact⟨Av HB'.out,rfl⟩
   ·have HB':=Aa (show false=nameB s.data.toList by rw[← HB.out,decide_eq_false h1,Bool.false_and]);clear HB;go_wp2;go_ret;exact⟨Av HB'.out,rfl⟩
theorem Afw(s:ByteArray)(w:World)(hs:s.size≤1048576)(hst:Dx w):Calls Tryz.prog 225 #[.int .i64 1,.string s] w fun e w'=>e=.returned (.bool (Eu s.data.toList))∧Below w.heap.size w w':=by
 have H:=K7 s 0 w hs hst;rw[Abe]at H;go_enter Tryz.func225,Tryz.ntmps225;go_wp2_with (go_at_call 246;refine H.mono ?_;rintro e w1 ⟨rfl,b1⟩)
 go_ret;exact⟨rfl,b1⟩
theorem Afx(s:ByteArray)(w:World)(hs:s.size≤1048576)(hst:Dx w):Calls Tryz.prog 225 #[.int .i64 2,.string s] w fun e w'=>e=.returned (.bool (He s.data.toList))∧Below w.heap.size w w':=by
 have H:=K7 s (-1000000) w hs hst;rw[V8]at H;go_enter Tryz.func225,Tryz.ntmps225;go_wp2_with (go_at_call 246;refine H.mono ?_;rintro e w1 ⟨rfl,b1⟩)
 go_ret;exact⟨rfl,b1⟩
theorem Afy(s:ByteArray)(w:World)(hs:s.size≤1048576):Calls Tryz.prog 225 #[.int .i64 3,.string s] w fun e w'=>e=.returned (.bool (nameB s.data.toList))∧Below w.heap.size w w':=by
 go_enter Tryz.func225,Tryz.ntmps225;go_wp2_with (go_at_call 134;refine(Pr s _ hs).mono ?_;rintro e w1 ⟨rfl,rfl⟩)
 go_ret;exact⟨rfl,Below.refl _ _⟩
theorem Afz(s:ByteArray)(w:World):Calls Tryz.prog 225 #[.int .i64 4,.string s] w fun e w'=>e=.returned (.bool (decide (s.data.toList.length≤200)))∧Below w.heap.size w w':=by
 have e:s.data.toList.length=s.size:=by simp
 rw[e];go_enter Tryz.func225,Tryz.ntmps225;go_wp2;go_ret;exact⟨Av (decide_eq_decide.2 (by omega)),Below.refl _ _⟩
theorem Af0(s:ByteArray)(w:World):Calls Tryz.prog 225 #[.int .i64 5,.string s] w fun e w'=>e=.returned (.bool (Abg s.data.toList))∧Below w.heap.size w w':=by
 rw[← ByteArray.toList_eq];generalize hL:s.toList=L;by_cases h1:L=[121,101,115]
 ·have h1':(s.toList == [121,101,115])=true:=by rw[hL,beq_iff_eq];exact h1
  have HB:Abg L=true:=by subst h1;decide
  go_enter Tryz.func225,Tryz.ntmps225;go_wp2;go_ret;exact⟨Av HB.symm,Below.refl _ _⟩
 ·have h1':(s.toList == [121,101,115])=false:=by rw[hL,beq_eq_false_iff_ne];exact h1
  go_enter Tryz.func225,Tryz.ntmps225;go_wp2;go_ret;exact⟨Av rfl,Below.refl _ _⟩
theorem Af1(s:ByteArray)(w:World):Calls Tryz.prog 225 #[.int .i64 6,.string s] w fun e w'=>e=.returned (.bool (Kc s.data.toList))∧Below w.heap.size w w':=by
 rw[← ByteArray.toList_eq];generalize hL:s.toList=L;by_cases h1:L=[110,111,110,101]
 ·have h1':(s.toList == [110,111,110,101])=true:=by rw[hL,beq_iff_eq];exact h1
  have HB:Kc L=true:=by subst h1;decide
  go_enter Tryz.func225,Tryz.ntmps225;go_wp2;go_ret;exact⟨Av HB.symm,Below.refl _ _⟩
 ·have h1':(s.toList == [110,111,110,101])=false:=by rw[hL,beq_eq_false_iff_ne];exact h1
  by_cases h2:L=[98,101,114,116,104]
  ·have h2':(s.toList == [98,101,114,116,104])=true:=by rw[hL,beq_iff_eq];exact h2
   have HB:Kc L=true:=by subst h2;decide
   go_enter Tryz.func225,Tryz.ntmps225;go_wp2;go_ret;exact⟨Av HB.symm,Below.refl _ _⟩
  ·have h2':(s.toList == [98,101,114,116,104])=false:=by rw[hL,beq_eq_false_iff_ne];exact h2
   go_enter Tryz.func225,Tryz.ntmps225;go_wp2;go_ret;exact⟨Av rfl,Below.refl _ _⟩
theorem Abj(t:Int)(h1:1≤t)(h6:t≤6)(s:ByteArray)(w:World)(hs:s.size≤1048576)(hst:Dx w):Calls Tryz.prog 225 #[.int .i64 t,.string s] w fun e w'=>e=.returned (.bool (Jy t s.data.toList))∧Below w.heap.size w w':=by
 rcases six h1 h6 with rfl | rfl | rfl | rfl | rfl | rfl
 ·exact Afw s w hs hst
 ·exact Afx s w hs hst
 ·exact Afy s w hs
 ·exact Afz s w
 ·exact Af0 s w
 ·exact Af1 s w
end Go.Proofs.YtpdahhnjhggocaaGreatDoor
