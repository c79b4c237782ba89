/- Several texts in one: PartT. -/
import Derived.Test.YtdchjcadhlkpfaaGreatDoorD39
namespace Go.Proofs.YtdchjcadhlkpfaaGreatDoor
set_option linter.unusedVariables false
set_option linter.unusedSimpArgs false
set_option maxRecDepth 100000
set_option maxHeartbeats 8000000
section
open Go.RowKit
theorem Ek(x:Nat)(h1:48≤x)(h2:x≤57):IntKind.u8.wrap ((x:Int)-48)=(x:Int)-48:=by
 simp only[IntKind.wrap,IntKind.signed,IntKind.bits];simp;omega
theorem rm(S:ByteArray)(w:World)(h1:S.size≠1)(h2:S.size≠2):
  Calls Tryz.prog 74 #[.string S] w fun e w'=>e=.returned (.int .i64 9)∧w'=w:=by
 have e1:((S.size:Int)==1)=false:=by simp;omega
 have e2:((S.size:Int)==2)=false:=by simp;omega
 go_enter Tryz.func74,Tryz.ntmps74;go_wp2_with fail;go_ret;exact⟨rfl,rfl⟩
theorem DH(S:ByteArray)(w:World)(n:Nat)(h1:S.size=1)(hn:(S[0]'(by omega)).toNat=n):
  Calls Tryz.prog 74 #[.string S] w fun e w'=>e=.returned (.int .i64 (if 48≤n∧n≤57 then (n:Int)-48 else 9))∧w'=w:=by
 by_cases c1:48≤n
 ·by_cases c2:n≤57
  ·rw[if_pos ⟨c1,c2⟩];have hw:=Ek n c1 c2;have hw2:wrap64 ((n:Int)-48)=(n:Int)-48:=au (by omega) (by omega);have d1:(48:Int)≤(n:Int):=by omega
   have d2:(n:Int)≤57:=by omega
   go_enter Tryz.func74,Tryz.ntmps74;go_wp2_with fail;go_ret;exact⟨rfl,rfl⟩
  ·rw[if_neg (by omega)];have d1:(48:Int)≤(n:Int):=by omega
   have d2:¬(n:Int)≤57:=by omega
   go_enter Tryz.func74,Tryz.ntmps74;go_wp2_with fail;go_ret;exact⟨rfl,rfl⟩
 ·rw[if_neg (by omega)];have d1:¬(48:Int)≤(n:Int):=by omega
  go_enter Tryz.func74,Tryz.ntmps74;go_wp2_with fail;go_ret;exact⟨rfl,rfl⟩
theorem DI(S:ByteArray)(w:World)(m n:Nat)(h1:S.size=2)(hm:(S[0]'(by omega)).toNat=m)(hn:(S[1]'(by omega)).toNat=n):
  Calls Tryz.prog 74 #[.string S] w fun e w'=>e=.returned (.int .i64 (if m=45∧48≤n∧n≤57 then -((n:Int)-48) else 9))∧w'=w:=by
 by_cases c0:m=45
 ·by_cases c1:48≤n
  ·by_cases c2:n≤57
   ·rw[if_pos ⟨c0,c1,c2⟩];have hw:=Ek n c1 c2;have hw2:wrap64 ((n:Int)-48)=(n:Int)-48:=au (by omega) (by omega);have hw3:wrap64 (-((n:Int)-48)) = -((n:Int)-48):=au (by omega) (by omega);have d0:((m:Int)==45)=true:=by simp;omega
    have d1:(48:Int)≤(n:Int):=by omega
    have d2:(n:Int)≤57:=by omega
    go_enter Tryz.func74,Tryz.ntmps74;go_wp2_with fail;go_ret;exact⟨rfl,rfl⟩
   ·rw[if_neg (by omega)];have d0:((m:Int)==45)=true:=by simp;omega
    have d1:(48:Int)≤(n:Int):=by omega
    have d2:¬(n:Int)≤57:=by omega
    go_enter Tryz.func74,Tryz.ntmps74;go_wp2_with fail;go_ret;exact⟨rfl,rfl⟩
  ·rw[if_neg (by omega)];have d0:((m:Int)==45)=true:=by simp;omega
   have d1:¬(48:Int)≤(n:Int):=by omega
   go_enter Tryz.func74,Tryz.ntmps74;go_wp2_with fail;go_ret;exact⟨rfl,rfl⟩
 ·rw[if_neg (by omega)];have d0:((m:Int)==45)=false:=by simp;omega
  go_enter Tryz.func74,Tryz.ntmps74;go_wp2_with fail;go_ret;exact⟨rfl,rfl⟩
theorem jb(l:List UInt8)(w:World):
  Calls Tryz.prog 74 #[iR l] w fun e w'=>e=.returned (.int .i64 (dn l))∧w'=w:=by
 match l with
 | []=>exact rm ⟨#[]⟩ w (by decide) (by decide)
 | [x]=>exact DH ⟨#[x]⟩ w x.toNat rfl rfl
 | [x,y]=>exact DI ⟨#[x,y]⟩ w x.toNat y.toNat rfl rfl rfl
 | x :: y :: z :: r=>
  have hs:(⟨(x :: y :: z :: r).toArray⟩:ByteArray).size=r.length+3:=by show (x :: y :: z :: r).toArray.size=_;simp
  exact rm ⟨(x :: y :: z :: r).toArray⟩ w (by omega) (by omega)
end
end Go.Proofs.YtdchjcadhlkpfaaGreatDoor
