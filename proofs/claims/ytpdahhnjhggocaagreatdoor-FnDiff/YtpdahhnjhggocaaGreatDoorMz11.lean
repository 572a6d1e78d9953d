import Derived.Test.YtpdahhnjhggocaaGreatDoorMz9
import Derived.Deep.RegionWith
namespace Go.Proofs.YtpdahhnjhggocaaGreatDoor
open Go.RowKit
set_option maxHeartbeats 16000000
set_option maxRecDepth 100000
variable {w w':World}
theorem Qr(B:Nat)(a:Option Addr)(len cap:Nat)(w:World)(hB:B≤w.heap.size)(hl:len≤1048576)(hcap:len≤cap)(hc2:cap≤9223372036854775807)
  (hc:len=0∨∃ b off,a=some ⟨b,off,none⟩∧b<B∧∀ i,i<len→∃ z:Nat,z<256∧w.cell? ⟨b,off+i,none⟩=some (.int .u8 (z:Int))) :
  Calls Tryz.prog 42 #[.slice a len cap] w fun e w'=>e=.returned (.pointer (some ⟨w.heap.size,0,none⟩))∧Rd B w' w.heap.size 0∧Below w.heap.size w w':=by
 by_cases h:len≤2000
 ·have h':¬ (2000:Int)<(len:Int):=by omega
  go_enter Tryz.func42,Tryz.ntmps42;go_wp2;go_ret;refine⟨rfl,⟨hB,a,len,cap,heap_alloc_new w _,h,?_⟩,(Below.refl _ _).alloc (Nat.le_refl _) _⟩;rcases hc with h0 | ⟨b,off,ha,hb,hcell⟩
  ·exact Or.inl h0
  ·exact Or.inr ⟨b,off,ha,hb,fun i hi=>by obtain⟨z,hz,hcl⟩:=hcell i hi;exact⟨z,hz,by rw[((Below.refl w.heap.size w).alloc (Nat.le_refl _) _).cell (by simp;omega)];exact hcl⟩⟩
 ·have h':(2000:Int)<(len:Int):=by omega
  rcases hc with h0 | ⟨b,off,rfl,hb,hcell⟩
  ·omega
  ·go_enter Tryz.func42,Tryz.ntmps42;go_wp2;go_ret;refine⟨rfl,⟨hB,_,2000,cap,heap_alloc_new w _,by omega,Or.inr ⟨b,off,rfl,hb,fun i hi=>?_⟩⟩,(Below.refl _ _).alloc (Nat.le_refl _) _⟩;obtain⟨z,hz,hcl⟩:=hcell i (by omega);exact⟨z,hz,by rw[((Below.refl w.heap.size w).alloc (Nat.le_refl _) _).cell (by simp;omega)];exact hcl⟩
theorem Ahp{row:Option Nat}(h:w.drew.grownBy w' row):w.grownBy w' row:=⟨h.os,h.tape,h.output,h.size,h.block⟩
variable {B B':Nat}
def Code(B:Nat)(w:World)(a:Option Addr)(len cap:Nat):Prop :=
 len≤1048576∧len≤cap∧cap≤9223372036854775807∧(len=0∨∃ b off,a=some ⟨b,off,none⟩∧b<B∧∀ i,i<len→∃ z:Nat,z<256∧w.cell? ⟨b,off+i,none⟩=some (.int .u8 (z:Int)))
theorem Code.below{a:Option Addr}{len cap:Nat}(h:Code B w a len cap)(hb:Below B w w')(hB:B≤B'):Code B' w' a len cap:=by
 refine⟨h.1,h.2.1,h.2.2.1,?_⟩;rcases h.2.2.2 with h0 | ⟨b,off,ha,hb1,hc⟩
 ·exact Or.inl h0
 ·exact Or.inr ⟨b,off,ha,by omega,fun i hi=>by obtain⟨z,hz,hcl⟩:=hc i hi;exact⟨z,hz,by rw[hb.cell (by simp;omega)];exact hcl⟩⟩
end Go.Proofs.YtpdahhnjhggocaaGreatDoor
