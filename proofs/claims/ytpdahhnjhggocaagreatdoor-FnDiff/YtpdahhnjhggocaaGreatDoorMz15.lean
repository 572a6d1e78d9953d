import Derived.Test.YtpdahhnjhggocaaGreatDoorMz11
import Derived.Test.YtpdahhnjhggocaaGreatDoorMz13
namespace Go.Proofs.YtpdahhnjhggocaaGreatDoor
open Go.RowKit
set_option maxHeartbeats 16000000
set_option maxRecDepth 100000
theorem Aeh(B p k:Nat)(w:World)(h:Rd B w p k)(hk:k≤900000):
  Calls Tryz.prog 219 #[.pointer (some ⟨p,0,none⟩),.int .i64 1] w fun e w'=>Mq 200 B p w e w' k 2:=by
 go_enter Tryz.func219,Tryz.ntmps219;go_wp2_with (go_at_call 44;refine(Bn B p k 6 _ (h.below ((Below.refl _ _).alloc (Nat.le_refl _) _)) (by omega) (by omega) (by omega)).mono ?_)
 rintro e w2 ⟨y,hy,rfl,h2,g2⟩;obtain⟨u,hu,hc⟩:=Ik w w2 [⟨#[48]⟩,⟨#[49]⟩,⟨#[50]⟩,⟨#[55]⟩,⟨#[49,48,48]⟩,⟨#[49,48,48,48,48,48,48]⟩] 10 y p (by decide) hy g2 h.lt;go_wp2;go_ret;exact⟨u,k+1,by omega,by omega,rfl,h2,A1 (Dk (World.grownBy_alloc _ _ _) _) g2⟩
theorem Aei(B p k:Nat)(w:World)(h:Rd B w p k)(hk:k≤900000):
  Calls Tryz.prog 219 #[.pointer (some ⟨p,0,none⟩),.int .i64 2] w fun e w'=>Mq 200 B p w e w' k 2:=by
 go_enter Tryz.func219,Tryz.ntmps219;go_wp2_with (go_at_call 44;refine(Bn B p k 5 _ (h.below ((Below.refl _ _).alloc (Nat.le_refl _) _)) (by omega) (by omega) (by omega)).mono ?_)
 rintro e w2 ⟨y,hy,rfl,h2,g2⟩;obtain⟨u,hu,hc⟩:=Ik w w2 [⟨#[48]⟩,⟨#[45,49]⟩,⟨#[53]⟩,⟨#[45,57]⟩,⟨#[45,49,48,48,48,48,48,48]⟩] 10 y p (by decide) hy g2 h.lt;go_wp2;go_ret;exact⟨u,k+1,by omega,by omega,rfl,h2,A1 (Dk (World.grownBy_alloc _ _ _) _) g2⟩
theorem Aej(B p k:Nat)(w:World)(h:Rd B w p k)(hk:k≤900000):
  Calls Tryz.prog 219 #[.pointer (some ⟨p,0,none⟩),.int .i64 3] w fun e w'=>Mq 200 B p w e w' k 2:=by
 go_enter Tryz.func219,Tryz.ntmps219;go_wp2_with (go_at_call 44;refine(Bn B p k 4 _ (h.below ((Below.refl _ _).alloc (Nat.le_refl _) _)) (by omega) (by omega) (by omega)).mono ?_)
 rintro e w2 ⟨y,hy,rfl,h2,g2⟩;obtain⟨u,hu,hc⟩:=Ik w w2 [⟨#[99,111,114,101]⟩,⟨#[122]⟩,⟨#[101,97,115,116]⟩,⟨#[97,45,49]⟩] 10 y p (by decide) hy g2 h.lt;go_wp2;go_ret;exact⟨u,k+1,by omega,by omega,rfl,h2,A1 (Dk (World.grownBy_alloc _ _ _) _) g2⟩
theorem Aek(B p k:Nat)(w:World)(h:Rd B w p k)(hk:k≤900000):
  Calls Tryz.prog 219 #[.pointer (some ⟨p,0,none⟩),.int .i64 5] w fun e w'=>Mq 200 B p w e w' k 2:=by
 go_enter Tryz.func219,Tryz.ntmps219;go_wp2_with (go_at_call 44;refine(Bn B p k 2 _ (h.below ((Below.refl _ _).alloc (Nat.le_refl _) _)) (by omega) (by omega) (by omega)).mono ?_)
 rintro e w2 ⟨y,hy,rfl,h2,g2⟩;obtain⟨u,hu,hc⟩:=Ik w w2 [⟨#[121,101,115]⟩,⟨#[110,111]⟩] 10 y p (by decide) hy g2 h.lt;go_wp2;go_ret;exact⟨u,k+1,by omega,by omega,rfl,h2,A1 (Dk (World.grownBy_alloc _ _ _) _) g2⟩
theorem Ael(B p k:Nat)(w:World)(h:Rd B w p k)(hk:k≤900000):
  Calls Tryz.prog 219 #[.pointer (some ⟨p,0,none⟩),.int .i64 6] w fun e w'=>Mq 200 B p w e w' k 2:=by
 go_enter Tryz.func219,Tryz.ntmps219;go_wp2_with (go_at_call 44;refine(Bn B p k 3 _ (h.below ((Below.refl _ _).alloc (Nat.le_refl _) _)) (by omega) (by omega) (by omega)).mono ?_)
 rintro e w2 ⟨y,hy,rfl,h2,g2⟩;obtain⟨u,hu,hc⟩:=Ik w w2 [⟨#[110,111,110,101]⟩,⟨#[98,101,114,116,104]⟩,⟨#[122,111,110,101]⟩] 10 y p (by decide) hy g2 h.lt;go_wp2;go_ret;exact⟨u,k+1,by omega,by omega,rfl,h2,A1 (Dk (World.grownBy_alloc _ _ _) _) g2⟩
theorem Aem(B p k:Nat)(w:World)(h:Rd B w p k)(hk:k≤900000):
  Calls Tryz.prog 219 #[.pointer (some ⟨p,0,none⟩),.int .i64 4] w fun e w'=>Mq 200 B p w e w' k 2:=by
 go_enter Tryz.func219,Tryz.ntmps219;go_wp2_with (go_at_call 243;refine(Zs B p k w h hk).mono ?_)
 rintro e w2 ⟨u,k2,hu,hk2,rfl,h2,g2⟩;go_wp2;go_ret;exact⟨u,k2,hu,hk2,rfl,h2,g2⟩
theorem Zt(B p k:Nat)(t:Int)(h1:1≤t)(h6:t≤6)(w:World)(h:Rd B w p k)(hk:k≤900000):
  Calls Tryz.prog 219 #[.pointer (some ⟨p,0,none⟩),.int .i64 t] w fun e w'=>Mq 200 B p w e w' k 2:=by
 rcases six h1 h6 with rfl | rfl | rfl | rfl | rfl | rfl
 ·exact Aeh B p k w h hk
 ·exact Aei B p k w h hk
 ·exact Aej B p k w h hk
 ·exact Aem B p k w h hk
 ·exact Aek B p k w h hk
 ·exact Ael B p k w h hk
theorem Sr(B p k:Nat)(w:World)(h:Rd B w p k)(hk:k≤900000):
  Calls Tryz.prog 164 #[.pointer (some ⟨p,0,none⟩)] w fun e w'=>Mq 201 B p w e w' k 2:=by
 go_enter Tryz.func164,Tryz.ntmps164;go_wp2_with (go_at_call 44;refine(Bn B p k 2 w h (by omega) (by omega) (by omega)).mono ?_)
 rintro e w1 ⟨x,hx,rfl,h1,g1⟩;have hm:=Lw ⟨#[110]⟩ (20+x) w1 (by decide) (by omega);rw[show ((20+x:Nat):Int)=20+(x:Int) from by omega]at hm;go_wp2_with (go_at_call 80;refine hm.mono ?_)
 rintro e w1 ⟨t,ht,rfl,rfl⟩;clear hm;have hm:=Lw ⟨#[116]⟩ 201 w1 (by decide) (by omega);go_wp2_with (go_at_call 80;refine hm.mono ?_)
 rintro e w1 ⟨v,hv,rfl,rfl⟩;clear hm;have ht':t.size≤201:=by rw[ht];show 1 * (20+x)≤201;omega
 have hv':v.size≤201:=by rw[hv];show 1 * 201≤201;omega
 clear ht hv;go_wp2_with (go_at_call 44;refine(Bn B p (k+1) 12 _ (h1.below ((Below.refl _ _).alloc (Nat.le_refl _) _)) (by omega) (by omega) (by omega)).mono ?_)
 rintro e w2 ⟨y,hy,rfl,h2,g2⟩;obtain⟨u,hu,hc⟩:=Ik w1 w2 [⟨#[]⟩,⟨#[48,49]⟩,⟨#[45,48]⟩,⟨#[49,48,48,48,48,48,49]⟩,⟨#[49,50,51,52,53,54,55,56]⟩,⟨#[120,32,121]⟩,⟨#[67,111,114,101]⟩,⟨#[109,97,121,98,101]⟩,t,⟨#[45]⟩,⟨#[43,49]⟩,v] 201 y p (by intro u hu;simp only[List.mem_cons,List.not_mem_nil,or_false]at hu;rcases hu with rfl | rfl | rfl | rfl | rfl | rfl | rfl | rfl | rfl | rfl | rfl | rfl;all_goals first | assumption | decide) hy g2 h1.lt
 go_wp2;go_ret;exact⟨u,k+1+1,hu,by omega,rfl,h2,A1 g1 (A1 (Dk (World.grownBy_alloc _ _ _) _) g2)⟩
theorem Pa(w1 w2:World)(l:List ByteArray)(y p:Nat)(hy:y<l.length)(hg:(w1.alloc (.cells (l.map Value.string).toArray 9)).grownBy w2 (some p))(hp:p≠w1.heap.size):
  ∃ u∈l,w2.cell? ⟨w1.heap.size,y,none⟩=some (.string u):=by
 refine⟨l[y],List.getElem_mem _,hg.cell ?_ (by simp;omega)⟩;rw[Lib.cell_of_heap (heap_alloc_new w1 _)];simp[hy]
end Go.Proofs.YtpdahhnjhggocaaGreatDoor
