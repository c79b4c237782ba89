/- Several texts in one: IeM. -/
import Derived.Test.YteoonaanoenjiaaGreatDoorL19
namespace Go.Proofs.YteoonaanoenjiaaGreatDoor
set_option linter.unusedVariables false
set_option linter.unusedSimpArgs false
set_option maxRecDepth 100000
set_option maxHeartbeats 8000000
section
def aQ(ids:List Int):Nat:=ids.countP (fun x=>decide (x≠0))
theorem jF(ids:List Int)(a:Int):aQ (ids ++ [a])=aQ ids+if a≠0 then 1 else 0:=by
 unfold aQ;rw[List.countP_append,List.countP_singleton];by_cases h:a=0<;>simp[h]
def fH(F:List Int→Int→Bool)(A:List Int):Nat→List Int→List (List Int)
 | 0,ids=>[ids]
 | r+1,ids=>(A.filter (F ids)).flatMap (fun a=>fH F A r (ids ++ [a])) ++ fH F A r (ids ++ [0])
theorem ni(F:List Int→Int→Bool)(A:List Int):∀(r:Nat) (ids l:List Int),l∈fH F A r ids→aQ l≤aQ ids+r
 | 0,ids,l,h=>by
  simp only[fH,List.mem_singleton]at h;subst h;omega
 | r+1,ids,l,h=>by
  simp only[fH,List.mem_append,List.mem_flatMap]at h;rcases h with ⟨a,_,h⟩ | h
  ·have:=ni F A r _ l h;rw[jF]at this;split at this<;>omega
  ·have:=ni F A r _ l h;rw[jF]at this;simp at this;omega
structure SeN where
 best:List Int
 count:Nat
 many:Nat
def dR(s:SeN)(l:List Int):SeN:=
 if s.count<aQ l then ⟨l,aQ l,1⟩ else if aQ l=s.count then ⟨l,s.count,s.many+1⟩ else s
theorem pW{s:SeN}{l:List Int}(h:aQ l<s.count):dR s l=s:=by
 unfold dR;rw[if_neg (by omega),if_neg (by omega)]
theorem rA:∀(L:List (List Int)) (s:SeN),(∀l∈L,aQ l<s.count)→L.foldl dR s=s
 | [],s,_=>rfl
 | l :: L,s,h=>by
  rw[List.foldl_cons,pW (h l (by simp))];exact rA L s (fun x hx=>h x (by simp[hx]))
def eR(F:List Int→Int→Bool)(A:List Int):Nat→List Int→SeN→SeN
 | 0,ids,s=>if aQ ids+0<s.count then s else dR s ids
 | r+1,ids,s=>if aQ ids+(r+1)<s.count then s else eR F A r (ids ++ [0]) (A.foldl (fun s a=>if F ids a=true then eR F A r (ids ++ [a]) s else s) s)
theorem pC{α β:Type}(p:α→Bool)(f:β→α→β):∀(L:List α) (s:β),L.foldl (fun s a=>if p a=true then f s a else s) s=(L.filter p).foldl f s
 | [],s=>rfl
 | a :: L,s=>by
  rw[List.foldl_cons,pC p f L];cases h:p a
  ·rw[List.filter_cons_of_neg (by simp[h])];simp
  ·rw[List.filter_cons_of_pos h];simp
theorem uB{α β γ:Type}(g:α→List γ)(f:β→γ→β):∀(L:List α) (s:β),(L.flatMap g).foldl f s=L.foldl (fun s a=>(g a).foldl f s) s
 | [],s=>rfl
 | a :: L,s=>by
  rw[List.flatMap_cons,List.foldl_append,uB g f L,List.foldl_cons]
theorem ld(F:List Int→Int→Bool)(A:List Int):∀(r:Nat) (ids:List Int) (s:SeN),eR F A r ids s=(fH F A r ids).foldl dR s
 | 0,ids,s=>by
  unfold eR fH;split
  ·rename_i h
   rw[List.foldl_cons,List.foldl_nil,pW (by omega)]
  ·rfl
 | r+1,ids,s=>by
  unfold eR;split
  ·rename_i h
   exact(rA _ s (fun l hl=>by have:=ni F A (r+1) ids l hl;omega)).symm
  ·rw[ld F A r,fH,List.foldl_append,uB,←pC (F ids) (fun s a=>(fH F A r (ids ++ [a])).foldl dR s) A s];congr 1
   congr 1
   funext s a
   rw[ld F A r]
def dz(g:List Int×Nat)(l:List Int):List Int×Nat:=
 if aQ l<3∨aQ l<aQ g.1 then g else if aQ g.1<aQ l then (l,1) else (g.1,g.2+1)
def ul(s:SeN)(g:List Int×Nat):Prop:=
 (s.many=0∧s.count=3∧g=([],0))∨(1≤s.many∧3≤s.count∧aQ g.1=s.count∧g.2=s.many∧(s.many=1→s.best=g.1))
theorem AE{s:SeN}{g:List Int×Nat}(h:ul s g)(l:List Int):ul (dR s l) (dz g l):=by
 rcases h with ⟨h1,h2,rfl⟩ | ⟨h1,h2,h3,h4,h5⟩
 ·have h0:aQ ([]:List Int)=0:=rfl;unfold dR dz;simp only[h0];by_cases c:aQ l<3
  ·rw[if_neg (by omega),if_neg (by omega),if_pos (by omega)];exact .inl ⟨h1,h2,rfl⟩
  ·rw[if_neg (show ¬(aQ l<3∨aQ l<0) by omega),if_pos (show 0<aQ l by omega)];by_cases c2:s.count<aQ l
   ·rw[if_pos c2];exact .inr ⟨Nat.le_refl _,by show 3≤aQ l;omega,rfl,rfl,fun _=>rfl⟩
   ·rw[if_neg c2,if_pos (by omega)];exact .inr ⟨by show 1≤s.many+1;omega,by show 3≤s.count;omega,by show aQ l=s.count;omega,by show 1=s.many+1;omega,fun _=>rfl⟩
 ·unfold dR dz;by_cases c:aQ l<s.count
  ·rw[if_neg (by omega),if_neg (by omega),if_pos (by omega)];exact .inr ⟨h1,h2,h3,h4,h5⟩
  ·rw[if_neg (show ¬(aQ l<3∨aQ l<aQ g.1) by omega)];by_cases c2:s.count<aQ l
   ·rw[if_pos c2,if_pos (show aQ g.1<aQ l by omega)];exact .inr ⟨Nat.le_refl _,by show 3≤aQ l;omega,rfl,rfl,fun _=>rfl⟩
   ·rw[if_neg c2,if_pos (by omega),if_neg (show ¬aQ g.1<aQ l by omega)];exact .inr ⟨by show 1≤s.many+1;omega,h2,h3,by show g.2+1=s.many+1;omega,fun e=>by have e':s.many+1=1:=e;omega⟩
theorem sJ:∀(L:List (List Int)) {s:SeN} {g:List Int×Nat},ul s g→ul (L.foldl dR s) (L.foldl dz g)
 | [],_,_,h=>h
 | l :: L,_,_,h=>sJ L (AE h l)
theorem DQ(F:List Int→Int→Bool)(A:List Int)(n:Nat):ul (eR F A n [] ⟨[],3,0⟩) ((fH F A n []).foldl dz ([],0)):=by
 rw[ld];exact sJ _ (.inl ⟨rfl,rfl,rfl⟩)
end
end Go.Proofs.YteoonaanoenjiaaGreatDoor
