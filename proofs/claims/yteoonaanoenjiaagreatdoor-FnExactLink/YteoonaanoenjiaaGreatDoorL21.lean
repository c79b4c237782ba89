/- Several texts in one: IeP. -/
import Derived.Test.YteoonaanoenjiaaGreatDoorL20
namespace Go.Proofs.YteoonaanoenjiaaGreatDoor
set_option linter.unusedVariables false
set_option linter.unusedSimpArgs false
set_option maxRecDepth 100000
set_option maxHeartbeats 8000000
section
theorem zl(s:SeN)(l:List Int):(dR s l).many≤s.many+1:=by
 unfold dR;split
 ·show 1≤s.many+1;omega
 ·split
  ·exact Nat.le_refl _
  ·omega
theorem pB:∀(L:List (List Int)) (s:SeN),(L.foldl dR s).many≤s.many+L.length
 | [],s=>Nat.le_refl _
 | l :: L,s=>by
  rw[List.foldl_cons,List.length_cons];have h1:=pB L (dR s l);have h2:=zl s l;omega
theorem xW{α β:Type}(f:α→List β)(c:Nat)(hf:∀a,(f a).length≤c):∀L:List α,(L.flatMap f).length≤L.length*c
 | []=>by simp
 | a :: L=>by
  rw[List.flatMap_cons,List.length_append,List.length_cons,Nat.succ_mul];have:=hf a;have:=xW f c hf L;omega
theorem nj(F:List Int→Int→Bool)(A:List Int)(hA:A.length≤12):∀(r:Nat) (ids:List Int),(fH F A r ids).length≤13 ^ r
 | 0,ids=>by simp[fH]
 | r+1,ids=>by
  unfold fH;rw[List.length_append];have h1:=xW (fun a=>fH F A r (ids ++ [a])) (13 ^ r) (fun a=>nj F A hA r _) (A.filter (F ids));have h2:=nj F A hA r (ids ++ [0]);have h3:(A.filter (F ids)).length≤12:=Nat.le_trans (List.length_filter_le _ _) hA;have h4:(A.filter (F ids)).length*13 ^ r≤12*13 ^ r:=Nat.mul_le_mul_right _ h3;rw[Nat.pow_succ];omega
theorem Aa(F:List Int→Int→Bool)(A:List Int)(hA:A.length≤12)(r:Nat)(ids:List Int)(s:SeN):(eR F A r ids s).many≤s.many+13 ^ r:=by
 rw[ld];have h1:=pB (fH F A r ids) s;have h2:=nj F A hA r ids;omega
def fQ(F:List Int→Int→Bool)(A:List Int)(r:Nat)(ids:List Int)(s:SeN)(i:Nat):SeN:=(A.take i).foldl (fun s a=>if F ids a=true then eR F A r (ids ++ [a]) s else s) s
theorem rY(F:List Int→Int→Bool)(A:List Int)(r:Nat)(ids:List Int)(s:SeN):fQ F A r ids s 0=s:=rfl
theorem ky(F:List Int→Int→Bool)(A:List Int)(r:Nat)(ids:List Int)(s:SeN){i:Nat}(hi:i<A.length):fQ F A r ids s (i+1)=if F ids (A.getD i 0)=true then eR F A r (ids ++ [A.getD i 0]) (fQ F A r ids s i) else fQ F A r ids s i:=by
 unfold fQ;rw[List.take_succ_eq_append_getElem hi,List.foldl_append];have e:A.getD i 0=A[i]:=by rw[List.getD_eq_getElem?_getD,List.getElem?_eq_getElem hi];rfl
 rw[e];rfl
theorem rX(F:List Int→Int→Bool)(A:List Int)(hA:A.length≤12)(r:Nat)(ids:List Int)(s:SeN):∀i,i≤A.length→(fQ F A r ids s i).many≤s.many+i*13 ^ r
 | 0,_=>by rw[rY];omega
 | i+1,h=>by
  rw[ky F A r ids s (by omega),Nat.succ_mul];have h1:=rX F A hA r ids s i (by omega);split
  ·have h2:=Aa F A hA r (ids ++ [A.getD i 0]) (fQ F A r ids s i);generalize 13 ^ r=p at *;omega
  ·generalize 13 ^ r=p at *;omega
variable {ids:List Int} {r:Nat}
theorem xY{F:List Int→Int→Bool}{A:List Int}{s:SeN}(h:aQ ids+r<s.count):eR F A r ids s=s:=by
 cases r with
 | zero=>unfold eR;rw[if_pos h]
 | succ r=>unfold eR;rw[if_pos h]
theorem zZ{F:List Int→Int→Bool}{A:List Int}{s:SeN}(h:¬aQ ids+0<s.count):eR F A 0 ids s=dR s ids:=by unfold eR;rw[if_neg h]
theorem Ac{F:List Int→Int→Bool}{A:List Int}{s:SeN}(h:¬aQ ids+(r+1)<s.count):eR F A (r+1) ids s=eR F A r (ids ++ [0]) (fQ F A r ids s A.length):=by
 rw[eR,if_neg h];unfold fQ;rw[List.take_length]
theorem lK(ids:List Int):aQ ids≤ids.length:=List.countP_le_length
theorem xl(s:SeN)(l:List Int):(dR s l).count≤max s.count (aQ l):=by
 unfold dR;split
 ·show aQ l≤_;omega
 ·split
  ·show s.count≤_;omega
  ·omega
end
end Go.Proofs.YteoonaanoenjiaaGreatDoor
