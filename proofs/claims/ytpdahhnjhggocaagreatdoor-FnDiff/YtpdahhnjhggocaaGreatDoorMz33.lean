import Derived.Test.YtpdahhnjhggocaaGreatDoorMz23
import Derived.Shelf.Strconv.Clone
import Derived.Shelf.Strings.Builder1
import Derived.Shelf.Strings.Count
import Derived.Shelf.Strings.Prefix
namespace Go.Proofs.YtpdahhnjhggocaaGreatDoor
open Go.RowKit
set_option maxHeartbeats 16000000
set_option maxRecDepth 100000
variable {kind:ByteArray}
theorem T6{α:Type}(f:α→List UInt8)(c:Nat):∀(l:List α),(∀ x∈l,(f x).length≤c)→(l.flatMap f).length≤l.length * c
 | [],_=>by simp
 | a::l,h=>by
  have h1:=h a (by simp);have h2:=T6 f c l (fun x hx=>h x (by simp[hx]));rw[List.flatMap_cons,List.length_append,List.length_cons,Nat.succ_mul];omega
theorem Ad4(l:List UInt8):(Aat l).length≤3 * l.length+2:=by
 unfold Aat;split
 ·omega
 ·have:=T6 qb 3 l (fun c _=>Ahe c);simp only[Ac3,List.length_append,List.length_cons,List.length_nil];omega
theorem Ad5{a:PLine}(h:Ds (rulesOf kind) a.key a.ws=true):(Adm a).length≤2100:=by
 obtain⟨_,h2,_,h4,h5⟩:=Sa h;unfold Adm;have:=T6 (fun w=>32::Aat w) 603 a.ws (fun w hw=>by have:=Ad4 w;have:=h5 w hw;rw[List.length_cons];omega);rw[List.length_append];have h6:a.ws.length * 603≤3 * 603:=Nat.mul_le_mul_right _ h4;omega
variable {b:PBlock}
section
open Go.Lib (decDigits)
theorem Ad6(h:Bi (rulesOf b.kind) b.lines):b.lines.length≤120∧∀ a∈b.lines,(Adm a).length≤2100:=by
 have h1:=h.few;have h2:=(C5 b.kind).1;exact⟨by omega,fun a ha=>Ad5 (h.1 a ha)⟩
end
variable {l:List UInt8}
theorem Ad7{t:ByteArray}(h:t.data.toList=l):t=⟨l.toArray⟩:=by
 subst h;cases t;simp
end Go.Proofs.YtpdahhnjhggocaaGreatDoor
