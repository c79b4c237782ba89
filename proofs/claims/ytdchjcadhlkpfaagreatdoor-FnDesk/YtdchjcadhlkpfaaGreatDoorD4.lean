/- Several texts in one: TextMath. -/
import Derived.Lib.ItoaMem
import Derived.Lib.Join
import Derived.Test.YtdchjcadhlkpfaaGreatDoorD2
namespace Go.Proofs.YtdchjcadhlkpfaaGreatDoor
set_option linter.unusedVariables false
set_option linter.unusedSimpArgs false
set_option maxRecDepth 100000
set_option maxHeartbeats 8000000
section
def d8(n:Int):UInt8:=UInt8.ofNat (48+n.toNat)
def dig(n:Int):List UInt8:=if n<0 then [45,d8 (-n)] else [d8 n]
def ft(a b c d:Int):List UInt8:=dig a ++ 44 :: (dig b ++ 44 :: (dig c ++ 44 :: dig d))
def cy(a b c d:Int):ByteArray:=if aD a b c d then ⟨(ft a b c d).toArray⟩ else ⟨#[]⟩
theorem nr{n:Int}(h:-5≤n∧n≤5):Lib.itoa n=dig n:=by
 unfold dig;split
 ·have e:n = -((-n).toNat:Int):=by omega
  have:=Lib.itoa_neg (-n).toNat (by omega);rw[←e]at this;rw[this,Lib.decDigits_one (by omega)];rfl
 ·have e:n=(n.toNat:Int):=by omega
  have:=Lib.itoa_nonneg n.toNat;rw[←e]at this;rw[this,Lib.decDigits_one (by omega)];rfl
theorem iW(n:Int):(dig n).length≤2:=by unfold dig;split<;>simp
theorem Eg(a b c d:Int):(ft a b c d).length≤11:=by
 have h1:=iW a;have h2:=iW b;have h3:=iW c;have h4:=iW d;unfold ft;simp only[List.length_append,List.length_cons];omega
theorem BW{a b c d:Int}(h:inT 5 a b c d=true):Lib.join [Lib.itoa a,Lib.itoa b,Lib.itoa c,Lib.itoa d] [44]=ft a b c d:=by
 obtain⟨h1,h2,h3,h4⟩:=bU.1 h;rw[nr h1,nr h2,nr h3,nr h4];simp[Lib.join,ft]
theorem qd{a b c d:Int}(h:aD a b c d=true):cy a b c d=⟨(ft a b c d).toArray⟩:=by unfold cy;rw[if_pos h]
theorem vJ{a b c d:Int}(h:aD a b c d=false):cy a b c d=⟨#[]⟩:=by unfold cy;rw[h];rfl
theorem Ct(x:UInt8)(l:List UInt8):((⟨#[x]⟩:ByteArray) ++ ⟨l.toArray⟩)=⟨(x :: l).toArray⟩:=by
 apply ByteArray.ext;simp
end
end Go.Proofs.YtdchjcadhlkpfaaGreatDoor
