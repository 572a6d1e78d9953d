import Derived.WalkKit
namespace Go.Proofs.YtpdahhnjhggocaaGreatDoor
set_option maxHeartbeats 16000000
set_option maxRecDepth 100000
def Ahd(c:UInt8):Bool:=decide (32≤c.toNat∧c.toNat≤126∧c.toNat≠34∧c.toNat≠92)
def Ac1(c:UInt8):Bool:=decide (33≤c.toNat∧c.toNat≤126∧c.toNat≠34∧c.toNat≠35∧c.toNat≠92)
theorem Ac2{c:UInt8}(h:33≤c.toNat∧c.toNat≤126∧c.toNat≠34∧c.toNat≠35∧c.toNat≠92):Ac1 c=true:=by simpa [Ac1] using h
def Ai2:List UInt8:=[48,49,50,51,52,53,54,55,56,57,97,98,99,100,101,102]
def Ah7(n:Nat):UInt8:=Ai2.getD n 0
def qb(c:UInt8):List UInt8:=if Ahd c=true then [c] else [92,Ah7 (c.toNat / 16),Ah7 (c.toNat % 16)]
def Ac3(l:List UInt8):List UInt8:=34::(l.flatMap qb)++[34]
def Rv(l:List UInt8):Bool:=!l.isEmpty && l.all Ac1
def Aat(l:List UInt8):List UInt8:=if Rv l=true then l else Ac3 l
theorem Ahe(c:UInt8):(qb c).length≤3:=by unfold qb;split <;> simp
theorem Rw(s:ByteArray)(k:Nat)(h:k<s.size):s.data.toList.take (k+1)=s.data.toList.take k++[s[k]]:=by
 rw[List.take_succ_eq_append_getElem (by simpa using h)];rfl
theorem V9(s:ByteArray):s.data.toList.take s.size=s.data.toList:=List.take_of_length_le (by simp)
theorem M1(s:ByteArray)(i:Nat)(h:i<s.size):s.data.toList.drop i=s[i]::s.data.toList.drop (i+1) :=
 List.drop_eq_getElem_cons (by simpa using h)
def strs(ws:List (List UInt8)):List Value:=ws.map fun l=>Value.string ⟨l.toArray⟩
theorem Ev(a:List (List UInt8)):(strs a).length=a.length:=by simp[strs]
end Go.Proofs.YtpdahhnjhggocaaGreatDoor
