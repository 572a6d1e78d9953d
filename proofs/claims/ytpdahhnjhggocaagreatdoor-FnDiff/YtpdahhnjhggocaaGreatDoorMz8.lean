import Derived.Test.YtpdahhnjhggocaaGreatDoorMz3
import Derived.Test.YtpdahhnjhggocaaGreatDoorMz6
import Derived.Deep.RegionWith
namespace Go.Proofs.YtpdahhnjhggocaaGreatDoor
open Go.RowKit
set_option maxHeartbeats 16000000
set_option maxRecDepth 100000
variable {w w1:World}
section
open Go.Lib (decDigits)
theorem Wb(d:Nat)(h:d<10):((UInt8.ofNat (48+d)).toNat:Int)=48+(d:Int):=by rw[Yp d h];omega
theorem Rx{d:Int}(c:UInt8)(hd:(c.toNat:Int)=d)(b:Below (w.alloc (.cells #[.int .u8 d] 5)).drew.heap.size (w.alloc (.cells #[.int .u8 d] 5)).drew w1):(convert 22 9 (.slice (some ⟨w.heap.size,0,none⟩) 1 1)).run Tryz.prog w1=.ok (.string ⟨#[c]⟩) w1:=by
 subst hd;exact Pn _ _ w.heap.size [c] 1 (Cd (World.ownsRow_lit w #[.int .u8 (c.toNat:Int)] 1 (Nat.le_refl _) (by decide) rfl).drew b)
theorem Ry(n:Nat):∀(w:World),n≤9999999→Calls Tryz.prog 85 #[.int .i64 (n:Int)] w fun e w'=>e=.returned (.string ⟨(decDigits n).toArray⟩)∧Below w.heap.size w w':=by
 induction n using Nat.strongRecOn with
 | _ n ih =>
 intro w hn;by_cases h:n<10
 ·have hcv:=Po w (UInt8.ofNat (48+n));rw[Wb n h]at hcv;have hneg:¬ ((n:Int)<0):=by omega
  have hlt:(n:Int)<10:=by omega
  rw[decDigits,dif_pos h];go_enter Tryz.func85,Tryz.ntmps85;go_wp2;go_ret;exact⟨rfl,(Below.refl _ w).alloc (Nat.le_refl _) _⟩
 ·have hneg:¬ ((n:Int)<0):=by omega
  have hlt:¬ ((n:Int)<10):=by omega
  have HI:=fun W=>ih (n / 10) (by omega) W (by omega)
  rw[show ((n / 10:Nat):Int)=(n:Int) / 10 from by omega]at HI;have hcv:=fun W=>Po W (UInt8.ofNat (48+n % 10))
  have hby:=Wb (n % 10) (by omega);rw[hby]at hcv;rw[show ((n % 10:Nat):Int)=(n:Int) % 10 from by omega]at hcv hby;rw[decDigits,dif_neg h];have hDl:(decDigits (n / 10)).length≤7:=by rw[Lib.decDigits_length];exact J7 _ (by omega)
  generalize decDigits (n / 10)=D at HI hDl ⊢;generalize UInt8.ofNat (48+n % 10)=c at hcv hby ⊢;have hcv3:=Rx (w:=w) _ hby (Below.refl _ _);have hw1:IntKind.i64.wrap ((n:Int) / 10)=(n:Int) / 10:=by rw[IntKind.wrap_i64];omega
  have hm:(n:Int).tmod 10=(n:Int) % 10:=Int.tmod_eq_emod_of_nonneg (by omega);have hw2:IntKind.i64.wrap (48+(n:Int) % 10)=48+(n:Int) % 10:=by rw[IntKind.wrap_i64];omega
  have hw3:IntKind.u8.wrap (48+(n:Int) % 10)=48+(n:Int) % 10:=by rw[IntKind.wrap_u8];omega
  go_enter Tryz.func85,Tryz.ntmps85;go_wp2;go_region_with (first | (go_at_call 85;refine(HI _).mono ?_;rintro e w1 ⟨rfl,b1⟩;have hcv2:=Rx _ hby b1) | (go_at_call 85;refine(HI _).mono ?_;rintro e w1 ⟨rfl,b1⟩))
  all_goals
   go_wp2;go_ret;refine⟨Afp (congrArg Value.string (Abf D [c])),?_⟩
   first
    | exact((Below.refl w.heap.size w).drew.trans b1).alloc b1.size _
    | exact((Below.refl w.heap.size w).alloc (Nat.le_refl _) _).drew.trans (b1.mono (by simp))
end
variable {k:Nat}
section
open Go.Lib (decDigits)
theorem Rz(p:UInt8→Bool)(s:ByteArray)(k:Nat)(h:k<s.size):(s.data.toList.take (k+1)).all p=((s.data.toList.take k).all p && p s[k]):=by
 rw[Rw s k h,List.all_append];simp
theorem Ys(p:UInt8→Bool)(s:ByteArray)(k:Nat)(hk:k<s.size)(h:p s[k]=false):s.data.toList.all p=false:=by
 rw[List.all_eq_false];exact⟨s[k],by simp[ByteArray.getElem_eq_getElem_data],by simp[h]⟩
theorem Ahf(l:List UInt8)(hd:l.all Fu=true)(a n:Nat)(ha:a<10 ^ n):Dw a l<10 ^ (n+l.length):=by
 induction l generalizing a n with
 | nil=>rw[Et];simpa using ha
 | cons c l ih =>
  simp only[List.all_cons,Bool.and_eq_true,Fu,decide_eq_true_eq]at hd;rw[E6,List.length_cons,show n+(l.length+1)=(n+1)+l.length from by omega];exact ih hd.2 _ _ (by rw[Nat.pow_succ];omega)
theorem Afr(s:ByteArray)(k:Nat)(hs:s.size≤7)(hd:(s.data.toList.take k).all Fu=true):J5 (s.data.toList.take k)≤9999999:=by
 have h:=Ahf _ hd 0 0 (by decide);have e:s.data.toList.length=s.size:=by simp
 have hl:(s.data.toList.take k).length≤7:=by rw[List.length_take,e];omega
 have h2:10 ^ (0+(s.data.toList.take k).length)≤10 ^ 7:=Nat.pow_le_pow_right (by decide) (by omega);unfold J5;omega
theorem Ac4(s:ByteArray)(k:Nat)(h:k<s.size):J5 (s.data.toList.take (k+1))=J5 (s.data.toList.take k) * 10+(s[k].toNat - 48):=by
 unfold J5;rw[Rw s k h,J6,E6,Et]
theorem Wc(s:ByteArray)(h:¬ (1≤s.size∧s.size≤7)):Eu s.data.toList=false:=by
 have:s.data.toList.length=s.size:=by simp
 unfold Eu;rw[this];by_cases h1:1≤s.size
 ·simp[h1,show ¬ s.size≤7 from fun h2=>h ⟨h1,h2⟩]
 ·simp[h1]
theorem Ac5(s:ByteArray)(h:s.data.toList.all Fu=false):Eu s.data.toList=false:=by
 unfold Eu;rw[h];simp
theorem Ac6(s:ByteArray)(h1:1≤s.size)(h2:s.size≤7)(h:s.data.toList.all Fu=true)(a:Nat)(ha:J5 s.data.toList=a):Eu s.data.toList=(decDigits a == s.data.toList && decide (a≤1000000)):=by
 have:s.data.toList.length=s.size:=by simp
 unfold Eu;rw[h,ha,this];simp[h1,h2]
theorem Afs{s:ByteArray}{a:Nat}{x:Bool}(hx:x=(decDigits a == s.data.toList && decide (a≤1000000)))(h:decDigits a=s.toList):decide ((a:Int)≤1000000)=x:=by
 rw[hx,h,ByteArray.toList_eq];simp;omega
theorem Ahg{s:ByteArray}{a:Nat}{x:Bool}(hx:x=(decDigits a == s.data.toList && decide (a≤1000000)))(h:¬ decDigits a=s.toList):false=x:=by
 rw[ByteArray.toList_eq]at h;rw[hx,beq_eq_false_iff_ne.2 h];rfl
theorem Ka(s:ByteArray)(w:World)(hs:s.size≤1048576):Calls Tryz.prog 222 #[.string s] w fun e w'=>e=.returned (.bool (Eu s.data.toList))∧Below w.heap.size w w':=by
 by_cases h1:1≤s.size
 ·by_cases h2:s.size≤7
  ·have h1':(1:Int)≤(s.size:Int):=by omega
   have h2':(s.size:Int)≤7:=by omega
   go_enter Tryz.func222,Tryz.ntmps222;go_wp2;go_loop [3,4] (fun x i=>∃ k a:Nat,k≤s.size∧a≤9999999∧x=.int .i64 (a:Int)∧i=.int .i64 (k:Int)∧Hid ((s.data.toList.take k).all Fu=true)∧Hid (J5 (s.data.toList.take k)=a)) (fun _ i=>s.size - (intOf i).toNat)
   case atStart=>exact⟨0,0,Nat.zero_le _,by omega,rfl,rfl,by show _=_;simp,by show _=_;simp[J5,Et]⟩
   case round =>
    obtain⟨k,a,hk,ha,rfl,rfl,hA,hV⟩:=hrel;by_cases hlt:k<s.size
    ·have hc:s[k].toNat<256:=s[k].toNat_lt;by_cases hd:48≤s[k].toNat∧s[k].toNat≤57
     ·have hb:Fu s[k]=true:=by unfold Fu;simp[hd]
      have HA:Hid ((s.data.toList.take (k+1)).all Fu=true):=by show _=_;rw[Rz Fu s k hlt,hA.out,hb];rfl
      have HV:Hid (J5 (s.data.toList.take (k+1))=a * 10+(s[k].toNat - 48)):=by show _=_;rw[Ac4 s k hlt,hV.out]
      have hmx:=Afr s (k+1) h2 HA.out;rw[HV.out]at hmx;have d1:¬ ((s[k].toNat:Int)<48):=by omega
      have d2:¬ ((57:Int)<(s[k].toNat:Int)):=by omega
      clear hA hV hb;go_wp2;go_round
      case rel=>exact⟨k+1,a * 10+(s[k].toNat - 48),by omega,hmx,by go_num,by go_num,HA,HV⟩
      case measure=>simp[intOf];omega
     ·have hb:Fu s[k]=false:=by unfold Fu;rw[Bool.and_eq_false_iff];simp;omega
      have HB:Hid (Eu s.data.toList=false):=Ac5 s (Ys Fu s k hlt hb);clear hA hV hb;go_wp2
      all_goals
       go_ret;exact⟨Av HB.out.symm,Below.refl _ _⟩
    ·obtain rfl:k=s.size:=by omega
     have HB:Hid (Eu s.data.toList=(decDigits a == s.data.toList && decide (a≤1000000))):=by
      have e:s.data.toList.take s.size=s.data.toList:=V9 s;exact Ac6 s h1 h2 (by rw[← e];exact hA.out) a (by rw[← e];exact hV.out)
     clear hA hV;go_wp2_with (go_at_call 85;refine(Ry a _ ha).mono ?_;rintro e w1 ⟨rfl,b1⟩)
     ·go_ret;exact⟨Av (Afs HB.out ‹_›),b1⟩
     ·go_ret;exact⟨Av (Ahg HB.out ‹_›),b1⟩
  ·have h2':¬ ((s.size:Int)≤7):=by omega
   have h1':(1:Int)≤(s.size:Int):=by omega
   have HB:Hid (Eu s.data.toList=false):=Wc s (by omega);go_enter Tryz.func222,Tryz.ntmps222;go_wp2;go_ret;exact⟨Av HB.out.symm,Below.refl _ _⟩
 ·have h1':¬ ((1:Int)≤(s.size:Int)):=by omega
  have HB:Hid (Eu s.data.toList=false):=Wc s (by omega);go_enter Tryz.func222,Tryz.ntmps222;go_wp2;go_ret;exact⟨Av HB.out.symm,Below.refl _ _⟩
def nameByte(c:UInt8):Bool:=(decide (97≤c.toNat) && decide (c.toNat≤122)) || (decide (48≤c.toNat) && decide (c.toNat≤57)) || decide (c.toNat=45)
def nameB(l:List UInt8):Bool:=l.all nameByte && (decide (1≤l.length) && decide (l.length≤20))
theorem Ji{c:UInt8}(h:(97≤c.toNat∧c.toNat≤122)∨(48≤c.toNat∧c.toNat≤57)∨c.toNat=45):nameByte c=true:=by
 unfold nameByte;simp only[Bool.or_eq_true,Bool.and_eq_true,decide_eq_true_eq];omega
theorem Kb{c:UInt8}(h:¬ ((97≤c.toNat∧c.toNat≤122)∨(48≤c.toNat∧c.toNat≤57)∨c.toNat=45)):nameByte c=false:=by
 rw[Bool.eq_false_iff];unfold nameByte;simp only[ne_eq,Bool.or_eq_true,Bool.and_eq_true,decide_eq_true_eq];omega
theorem R0(s:ByteArray)(h:¬ (1≤s.size∧s.size≤20)):nameB s.data.toList=false:=by
 have e:s.data.toList.length=s.size:=by simp
 unfold nameB;rw[e];by_cases h1:1≤s.size
 ·simp[h1,show ¬ s.size≤20 from fun h2=>h ⟨h1,h2⟩]
 ·simp[h1]
theorem Wd(s:ByteArray)(h:s.data.toList.all nameByte=false):nameB s.data.toList=false:=by unfold nameB;rw[h];rfl
theorem R3(s:ByteArray)(h:s.data.toList.all nameByte=true):nameB s.data.toList=(decide (1≤s.size) && decide (s.size≤20)):=by
 have e:s.data.toList.length=s.size:=by simp
 unfold nameB;rw[h,e];rfl
def Es(s:ByteArray)(k:Nat):Prop:=(s.data.toList.take k).all nameByte=true
theorem Es.zero(s:ByteArray):Es s 0:=by simp[Es]
theorem Es.succ{s:ByteArray}(h:Es s k)(hk:k<s.size)(hb:nameByte s[k]=true):Es s (k+1):=by
 unfold Es at h ⊢;rw[Rz nameByte s k hk,h,hb];rfl
theorem Es.all{s:ByteArray}(h:Es s s.size):s.data.toList.all nameByte=true:=by rw[← V9 s];exact h
inductive H3 (c:UInt8):Bool→Prop
 | letter (h1:(97:Int)≤(c.toNat:Int)) (h2:(c.toNat:Int)≤122):H3 c true
 | digit (h1:¬ (97:Int)≤(c.toNat:Int)) (h2:(48:Int)≤(c.toNat:Int)) (h3:(c.toNat:Int)≤57):H3 c true
 | hyphen (h1:¬ (97:Int)≤(c.toNat:Int)) (h2:¬ (48:Int)≤(c.toNat:Int)) (h3:((c.toNat:Int) == 45)=true):H3 c true
 | low (h1:¬ (97:Int)≤(c.toNat:Int)) (h2:¬ (48:Int)≤(c.toNat:Int)) (h3:((c.toNat:Int) == 45)=false):H3 c false
 | mid (h1:¬ (97:Int)≤(c.toNat:Int)) (h2:(48:Int)≤(c.toNat:Int)) (h3:¬ (c.toNat:Int)≤57) (h4:((c.toNat:Int) == 45)=false):H3 c false
 | high (h1:(97:Int)≤(c.toNat:Int)) (h2:¬ (c.toNat:Int)≤122) (h3:(48:Int)≤(c.toNat:Int)) (h4:¬ (c.toNat:Int)≤57) (h5:((c.toNat:Int) == 45)=false):H3 c false
theorem We(c:UInt8):H3 c (nameByte c):=by
 by_cases a1:97≤c.toNat
 ·by_cases a2:c.toNat≤122
  ·rw[Ji (by omega)];exact .letter (by omega) (by omega)
  ·rw[Kb (by omega)];exact .high (by omega) (by omega) (by omega) (by omega) (by rw[beq_eq_false_iff_ne];omega)
 ·by_cases b1:48≤c.toNat
  ·by_cases b2:c.toNat≤57
   ·rw[Ji (by omega)];exact .digit (by omega) (by omega) (by omega)
   ·rw[Kb (by omega)];exact .mid (by omega) (by omega) (by omega) (by rw[beq_eq_false_iff_ne];omega)
  ·by_cases c1:c.toNat=45
   ·rw[Ji (by omega)];exact .hyphen (by omega) (by omega) (by rw[beq_iff_eq];omega)
   ·rw[Kb (by omega)];exact .low (by omega) (by omega) (by rw[beq_eq_false_iff_ne];omega)
theorem L3(s:ByteArray)(w:World)(hs:s.size≤1048576):Calls Tryz.prog 57 #[.string s] w fun e w'=>e=.returned (.bool (nameB s.data.toList))∧w'=w:=by
 by_cases h1:1≤s.size
 ·by_cases h2:s.size≤20
  ·have h1':(1:Int)≤(s.size:Int):=by omega
   have h2':(s.size:Int)≤20:=by omega
   go_enter Tryz.func57,Tryz.ntmps57;go_wp2;go_loop [3,4] (fun i _=>∃ k:Nat,k≤s.size∧i=.int .i64 (k:Int)∧Es s k) (fun i _=>s.size - (intOf i).toNat)
   case atStart=>exact⟨0,Nat.zero_le _,rfl,Es.zero s⟩
   case round =>
    obtain⟨k,hk,rfl,hA⟩:=hrel;by_cases hlt:k<s.size
    ·have hc:s[k].toNat<256:=s[k].toNat_lt;have hcase:=We s[k];cases hb:nameByte s[k]
     ·have HB:Hid (nameB s.data.toList=false):=Wd s (Ys nameByte s k hlt hb);rw[hb]at hcase;clear hA hb;cases hcase
      all_goals
       go_wp2;go_ret;exact⟨Av HB.out.symm,rfl⟩
     ·have HA:=hA.succ hlt hb;rw[hb]at hcase;clear hA hb;cases hcase
      all_goals
       go_wp2;go_round
       case rel=>exact⟨k+1,by omega,by go_num,HA⟩
       case measure=>simp[intOf];omega
    ·obtain rfl:k=s.size:=by omega
     have HB:Hid (nameB s.data.toList=true):=by show _=_;rw[R3 s hA.all];simp[h1,h2]
     clear hA;go_wp2;go_ret;exact⟨Av HB.out.symm,rfl⟩
  ·have h2':¬ ((s.size:Int)≤20):=by omega
   have h1':(1:Int)≤(s.size:Int):=by omega
   have HB:Hid (nameB s.data.toList=false):=R0 s (by omega);go_enter Tryz.func57,Tryz.ntmps57;go_wp2;go_ret;exact⟨Av HB.out.symm,rfl⟩
 ·have h1':¬ ((1:Int)≤(s.size:Int)):=by omega
  have HB:Hid (nameB s.data.toList=false):=R0 s (by omega);go_enter Tryz.func57,Tryz.ntmps57;go_wp2;go_ret;exact⟨Av HB.out.symm,rfl⟩
end
variable {l:List UInt8}
def Abg(l:List UInt8):Bool:=l == [121,101,115] || l == [110,111]
def Kc(l:List UInt8):Bool:=l == [110,111,110,101] || l == [98,101,114,116,104] || l == [122,111,110,101]
def Jy(t:Int)(l:List UInt8):Bool :=
 if t=1 then Eu l else if t=2 then He l else if t=3 then nameB l else if t=4 then decide (l.length≤200) else if t=5 then Abg l else Kc l
theorem six{t:Int}(h1:1≤t)(h6:t≤6):t=1∨t=2∨t=3∨t=4∨t=5∨t=6:=by omega
theorem Ac7(s:ByteArray)(w:World)(hs:s.size≤1048576):Calls Tryz.prog 171 #[.int .i64 1,.string s] w fun e w'=>e=.returned (.bool (Eu s.data.toList))∧Below w.heap.size w w':=by
 go_enter Tryz.func171,Tryz.ntmps171;go_wp2_with (go_at_call 222;refine(Ka s _ hs).mono ?_;rintro e w1 ⟨rfl,b1⟩)
 go_ret;exact⟨rfl,b1⟩
theorem Ac8(s:ByteArray)(w:World)(hs:s.size≤1048576):Calls Tryz.prog 171 #[.int .i64 3,.string s] w fun e w'=>e=.returned (.bool (nameB s.data.toList))∧Below w.heap.size w w':=by
 go_enter Tryz.func171,Tryz.ntmps171;go_wp2_with (go_at_call 57;refine(L3 s _ hs).mono ?_;rintro e w ⟨rfl,rfl⟩)
 go_ret;exact⟨rfl,Below.refl _ _⟩
theorem Ac9(s:ByteArray)(w:World):Calls Tryz.prog 171 #[.int .i64 4,.string s] w fun e w'=>e=.returned (.bool (decide (s.data.toList.length≤200)))∧Below w.heap.size w w':=by
 have e:s.data.toList.length=s.size:=by simp
 rw[e];go_enter Tryz.func171,Tryz.ntmps171;go_wp2;go_ret;exact⟨Av (decide_eq_decide.2 (by omega)),Below.refl _ _⟩
theorem Ada(s:ByteArray)(w:World):Calls Tryz.prog 171 #[.int .i64 5,.string s] w fun e w'=>e=.returned (.bool (Abg s.data.toList))∧Below w.heap.size w w':=by
 rw[← ByteArray.toList_eq];generalize hL:s.toList=L;by_cases h1:L=[121,101,115]
 ·have h1':(s.toList == [121,101,115])=true:=by rw[hL,beq_iff_eq];exact h1
  have HB:Abg L=true:=by subst h1;decide
  go_enter Tryz.func171,Tryz.ntmps171;go_wp2;go_ret;exact⟨Av HB.symm,Below.refl _ _⟩
 ·have h1':(s.toList == [121,101,115])=false:=by rw[hL,beq_eq_false_iff_ne];exact h1
  go_enter Tryz.func171,Tryz.ntmps171;go_wp2;go_ret;exact⟨Av rfl,Below.refl _ _⟩
theorem Adb(s:ByteArray)(w:World):Calls Tryz.prog 171 #[.int .i64 6,.string s] w fun e w'=>e=.returned (.bool (Kc s.data.toList))∧Below w.heap.size w w':=by
 rw[← ByteArray.toList_eq];generalize hL:s.toList=L;by_cases h1:L=[110,111,110,101]
 ·have h1':(s.toList == [110,111,110,101])=true:=by rw[hL,beq_iff_eq];exact h1
  have HB:Kc L=true:=by subst h1;decide
  go_enter Tryz.func171,Tryz.ntmps171;go_wp2;go_ret;exact⟨Av HB.symm,Below.refl _ _⟩
 ·have h1':(s.toList == [110,111,110,101])=false:=by rw[hL,beq_eq_false_iff_ne];exact h1
  by_cases h2:L=[98,101,114,116,104]
  ·have h2':(s.toList == [98,101,114,116,104])=true:=by rw[hL,beq_iff_eq];exact h2
   have HB:Kc L=true:=by subst h2;decide
   go_enter Tryz.func171,Tryz.ntmps171;go_wp2;go_ret;exact⟨Av HB.symm,Below.refl _ _⟩
  ·have h2':(s.toList == [98,101,114,116,104])=false:=by rw[hL,beq_eq_false_iff_ne];exact h2
   go_enter Tryz.func171,Tryz.ntmps171;go_wp2;go_ret;exact⟨Av rfl,Below.refl _ _⟩
theorem Abh(h:Eu l=true):He l=true:=by unfold He;rw[h];rfl
theorem Pp(h:Eu l=false)(h2:(decide (1<l.length) && l.head? == some 45 && l.tail != [48])=false):He l=false:=by unfold He;rw[h,h2];rfl
theorem Yt(h:Eu l=false)(h2:(decide (1<l.length) && l.head? == some 45 && l.tail != [48])=true):He l=Eu l.tail:=by unfold He;rw[h,h2];simp
theorem Aa{p:Prop}(h:p):Hid p:=h
theorem Aft(s:ByteArray)(h:0<s.size):s.data.toList.head?=some s[0]:=by
 have:=M1 s 0 h;rw[List.drop_zero]at this;rw[this];rfl
theorem Em(s:ByteArray)(w:World)(hs:s.size≤1048576)(b:Bool)(h:Eu s.data.toList=b):Calls Tryz.prog 222 #[.string s] w fun e w'=>e=.returned (.bool b)∧Below w.heap.size w w':=by
 rw[← h];exact Ka s w hs
theorem Yu(s:ByteArray):(s.extract 1 s.size).data.toList=s.data.toList.tail:=by
 rw[Yr];simp
theorem Abi{b:Bool}(h:Eu l=false)(h1:1<l.length)(h2:l.head?=some 45)(h3:¬ l.tail=[48])(hb:Eu l.tail=b):b=He l:=by
 rw[Yt h (by rw[h2];simp[h1,h3]),hb]
theorem Yv(h:Eu l=false)(h3:l.tail=[48]):false=He l:=by
 rw[Pp h (by rw[h3];simp)]
theorem Wf(h:Eu l=false)(h1:¬ 1<l.length):false=He l:=by
 rw[Pp h (by simp[h1])]
theorem Yw(h:Eu l=false)(h2:¬ l.head?=some 45):false=He l:=by
 rw[Pp h (by simp[h2])]
theorem Adc(s:ByteArray)(w:World)(hs:s.size≤1048576):Calls Tryz.prog 171 #[.int .i64 2,.string s] w fun e w'=>e=.returned (.bool (He s.data.toList))∧Below w.heap.size w w':=by
 cases hn:Eu s.data.toList
 ·by_cases h1:1<s.size
  ·have h1':(1:Int)<(s.size:Int):=by omega
   have hh:=Aft s (by omega);have hl:1<s.data.toList.length:=by
    have el:s.data.toList.length=s.size:=by simp
    omega
   have ht:=Yu s;have hxs:(s.extract 1 s.size).size≤1048576:=by rw[ByteArray.size_extract];omega
   by_cases h2:s[0].toNat=45
   ·have h2':((s[0].toNat:Int) == 45)=true:=by rw[beq_iff_eq];omega
    have h2'':s.data.toList.head?=some 45:=by rw[hh];congr 1;exact UInt8.toNat_inj.1 h2
    by_cases h3:s.data.toList.tail=[48]
    ·have HB:=Aa (Yv hn h3);have h3':((s.extract 1 s.size).toList == [48])=true:=by rw[ByteArray.toList_eq,ht,h3];rfl
     have H1:=fun W=>Em s W hs false hn
     clear hh h2'' h3 ht hn hl;go_enter Tryz.func171,Tryz.ntmps171;go_wp2_with (go_at_call 222;refine(H1 _).mono ?_;rintro e w1 ⟨rfl,b1⟩)
     go_ret;exact⟨Av HB.out,b1⟩
    ·have h3':((s.extract 1 s.size).toList == [48])=false:=by rw[ByteArray.toList_eq,ht,beq_eq_false_iff_ne];exact h3
     cases hm:Eu s.data.toList.tail
     all_goals
      have HB:=Aa (Abi hn hl h2'' h3 hm);have H1:=fun W=>Em s W hs false hn
      have H2:=fun W=>Em (s.extract 1 s.size) W hxs _ (ht ▸ hm)
      clear hh h2'' h3 ht hn hl hm;go_enter Tryz.func171,Tryz.ntmps171;go_wp2_with (go_at_call 222;refine(H1 _).mono ?_)
      rintro e w1 ⟨rfl,b1⟩;go_wp2_with (go_at_call 222;refine(H2 _).mono ?_)
      rintro e w2 ⟨rfl,b2⟩;go_wp2;go_ret;exact⟨Av HB.out,b1.trans (b2.mono b1.size)⟩
   ·have h2':((s[0].toNat:Int) == 45)=false:=by rw[beq_eq_false_iff_ne];omega
    have HB:=Aa (Yw hn (by rw[hh];intro h;exact h2 (by rw[Option.some.inj h];rfl)));have H1:=fun W=>Em s W hs false hn
    clear hh ht hn hl;go_enter Tryz.func171,Tryz.ntmps171;go_wp2_with (go_at_call 222;refine(H1 _).mono ?_;rintro e w1 ⟨rfl,b1⟩)
    go_ret;exact⟨Av HB.out,b1⟩
  ·have h1':¬ ((1:Int)<(s.size:Int)):=by omega
   have HB:=Aa (Wf hn (by rw[Array.length_toList];exact h1));have H1:=fun W=>Em s W hs false hn
   clear hn;go_enter Tryz.func171,Tryz.ntmps171;go_wp2_with (go_at_call 222;refine(H1 _).mono ?_;rintro e w1 ⟨rfl,b1⟩)
   go_ret;exact⟨Av HB.out,b1⟩
 ·have HB:=Aa (Abh hn).symm;have H1:=fun W=>Em s W hs true hn
  clear hn;go_enter Tryz.func171,Tryz.ntmps171;go_wp2_with (go_at_call 222;refine(H1 _).mono ?_;rintro e w1 ⟨rfl,b1⟩)
  go_ret;exact⟨Av HB.out,b1⟩
theorem Yx(t:Int)(h1:1≤t)(h6:t≤6)(s:ByteArray)(w:World)(hs:s.size≤1048576):Calls Tryz.prog 171 #[.int .i64 t,.string s] w fun e w'=>e=.returned (.bool (Jy t s.data.toList))∧Below w.heap.size w w':=by
 rcases six h1 h6 with rfl | rfl | rfl | rfl | rfl | rfl
 ·exact Ac7 s w hs
 ·exact Adc s w hs
 ·exact Ac8 s w hs
 ·exact Ac9 s w
 ·exact Ada s w
 ·exact Adb s w
end Go.Proofs.YtpdahhnjhggocaaGreatDoor
