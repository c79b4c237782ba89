/- Several texts in one: TsA. -/
import Derived.Test.YteoonaanoenjiaaGreatDoorL3
namespace Go.Proofs.YteoonaanoenjiaaGreatDoor
set_option linter.unusedVariables false
set_option linter.unusedSimpArgs false
set_option maxRecDepth 100000
set_option maxHeartbeats 8000000
section
open Go.Value renaming int → J
open Go.IntKind renaming i64 → Y
open Go.RowKit Go.Sort
variable {xs:List Value} {m:Nat} {t:TypeId} {v:Value} {w:World}
theorem jp{w':World}{B:Nat}{n:Nat}(h:w.ownsRow B t m v n xs)(hB:Below w.heap.size w w'):w'.ownsRow B t m v n xs:=
 h.kept (row:=none) ⟨hB.os,hB.tape,hB.output,hB.size,fun k hk _=>hB.block k hk⟩ (by cases hv:v.ownBlock<;>simp)
theorem Fv{B:Nat}{n:Nat}(h:w.ownsRow B t m v n xs):∃a c,v=.slice a n c:=by
 rcases h.2 with ⟨h1,h0⟩ | ⟨g,cap,cur,hv,_⟩
 ·exact⟨none,0,by rw[h1,h0]⟩
 ·exact⟨_,_,hv⟩
theorem Ft{B:Nat}{w1 w2:World}{n:Nat}(h:Below B w w1)(ho:w1.ownsRow B t m v n xs)(hg:w1.grownBy w2 v.ownBlock)(hB:B≤w1.heap.size):Below B w w2:=
 h.trans ⟨hg.os,hg.tape,hg.output,hg.size,fun k hk=>hg.block k (by omega) (fun e=>by have:=(ho.lt k e.symm).1;omega)⟩
theorem jN(w:World)(vs:List Value)(t:TypeId):∀(j:Nat) (u:Value),vs[j]? = some u→(w.alloc (.cells vs.toArray t)).cell? ((⟨w.heap.size,0,none⟩:Addr).add j)=some u:=by
 intro j u hj;have e:(⟨w.heap.size,0,none⟩:Addr).add j=⟨w.heap.size,j,none⟩:=by cases j<;>simp[Addr.add]
 rw[e];simp[hj]
abbrev T4:=Int×Int×Int×Int
theorem uM:(Tryz.prog.info? 35).map (fun i=>(i.zero,i.size,i.bytes))=some (some (.agg #[J Y 0,J Y 0,J Y 0,J Y 0]),4,32):=by kernel_rfl
def vB(t:T4):List Value:=[J Y t.1,J Y t.2.1,J Y t.2.2.1,J Y t.2.2.2]
def ew(S:List T4):List Value:=S.flatMap vB
theorem uA(A B:List T4):ew (A ++ B)=ew A ++ ew B:=by unfold ew;rw[List.flatMap_append]
theorem ry{S:List T4}(h:v∈ew S):v.oneCell'=true:=by
 unfold ew at h;rw[List.mem_flatMap]at h;obtain⟨p,_,hp⟩:=h;simp[vB]at hp;rcases hp with rfl | rfl | rfl | rfl<;>rfl
def tOf(n:Nat):T4:=((n:Int) / 125-2,(n:Int) / 25 % 5-2,(n:Int) / 5 % 5-2,(n:Int) % 5-2)
def pE(t:T4):Bool:=aE t.1 t.2.1 t.2.2.1 t.2.2.2
def az(k:Nat):List T4:=((List.range k).map tOf).filter pE
theorem mb(k:Nat):(az k).length≤k:=by
 have h:=List.length_filter_le pE ((List.range k).map tOf);rw[List.length_map,List.length_range]at h;exact h
theorem tj(k:Nat):az (k+1)=az k ++ (if pE (tOf k)=true then [tOf k] else []):=by
 unfold az;rw[List.range_succ,List.map_append,List.filter_append];congr 1
 cases h:pE (tOf k)
 ·rw[List.map_singleton,List.filter_cons_of_neg (by simp[h])];rfl
 ·rw[List.map_singleton,List.filter_cons_of_pos h];rfl
theorem JL(a b c d:Nat)(hb:b<5)(hc:c<5)(hd:d<5):tOf (a*125+b*25+c*5+d)=((a:Int)-2,(b:Int)-2,(c:Int)-2,(d:Int)-2):=by
 unfold tOf;have e1:((a*125+b*25+c*5+d:Nat):Int) / 125=a:=by omega
 have e2:((a*125+b*25+c*5+d:Nat):Int) / 25 % 5=b:=by omega
 have e3:((a*125+b*25+c*5+d:Nat):Int) / 5 % 5=c:=by omega
 have e4:((a*125+b*25+c*5+d:Nat):Int) % 5=d:=by omega
 rw[e1,e2,e3,e4]
theorem DI(w:World)(B:Nat)(h:B≤w.heap.size):(w.alloc (.cells #[] 35)).ownsRow B 35 4 (.slice (some ⟨w.heap.size,0,none⟩) 0 0) 0 (ew []):=
 ⟨rfl,.inr ⟨_,0,#[],rfl,h,Array.getElem?_push_size,Nat.le_refl _,Nat.zero_le _,rfl,rfl⟩⟩
theorem tI(w:World):
  Calls Tryz.prog 205 #[] w fun e w'=>(∃v,e=.returned v∧w'.ownsRow w.heap.size 35 4 v (az 625).length (ew (az 625)))∧Below w.heap.size w w':=by
 obtain⟨i0,hinf,hz0,hz1,hz2⟩:=info_parts uM;have hm8:1000≤maxLen:=by decide +kernel
 go_enter Tryz.func205,Tryz.ntmps205;go_wp2_with fail;go_loopw [1,4] (fun v kk wr=>∃k:Nat,k≤625∧kk=J Y k∧Hid (wr.ownsRow w.heap.size 35 4 v (az k).length (ew (az k)))∧Hid (Below w.heap.size w wr)) (fun _ kk _=>625-(intOf kk).toNat)
 case atStart=>exact⟨0,by omega,rfl,yz (World.ownsRow_nil _ _ _ _),yz (Below.refl _ _)⟩
 case round=>
  obtain⟨k,hk,rfl,HO,HB⟩:=hrel;by_cases hkn:k<625
  ·have hkn2:(k:Int)<625:=by omega
   have HSN:Hid (az (k+1)=az k ++ (if pE ((k:Int) / 125-2,(k:Int) / 25 % 5-2,(k:Int) / 5 % 5-2,(k:Int) % 5-2)=true then [((k:Int) / 125-2,(k:Int) / 25 % 5-2,(k:Int) / 5 % 5-2,(k:Int) % 5-2)] else [])):=yz (tj k);have hpl:=mb k;have Z:=ak wr (.cells #[J Y ((k:Int) / 125-2),J Y ((k:Int) / 25 % 5-2),J Y ((k:Int) / 5 % 5-2),J Y ((k:Int) % 5-2)] 35);have HB1:=aA HB Z;have HO1:=yz (jp (yx HO) Z);have TA1:=bh wr ((k:Int) / 125-2) ((k:Int) / 25 % 5-2) ((k:Int) / 5 % 5-2) ((k:Int) % 5-2) 35;clear Z HO HB;go_wp2_with fail;generalize (k:Int) / 125-2=p at *;generalize (k:Int) / 25 % 5-2=q at *;generalize (k:Int) / 5 % 5-2=r at *;generalize (k:Int) % 5-2=s at *;generalize wr.alloc (.cells #[J Y p,J Y q,J Y r,J Y s] 35)=W1 at HB1 HO1 TA1 ⊢;refine(bO p q r s _).mono ?_;rintro e W2 ⟨rfl,hx⟩;have TA2:=TA1.kept TA1.lt hx;have HB2:=aA HB1 hx;have HO2:=yz (jp (yx HO1) hx);clear hx TA1 HB1 HO1;have HG:Hid (pE (p,q,r,s)=aE p q r s):=yz rfl;generalize wr.heap.size=tb at *;cases hr:aE p q r s
   ·rw[hr]at HG;rw[yx HG,if_neg (by simp),List.append_nil]at HSN;have HO3:Hid (W2.ownsRow w.heap.size 35 4 u1 (az (k+1)).length (ew (az (k+1)))):=yz (by rw[yx HSN];exact yx HO2);go_wp2_with fail;go_roundw
    case rel=>exact⟨k+1,by omega,by go_num,HO3,HB2⟩
    case measure=>simp[intOf]<;>omega
   ·rw[hr]at HG;rw[yx HG,if_pos rfl]at HSN;obtain⟨e0,e1,e2,e3⟩:=TA2;have Z1:=ak W2 (.cells #[J Y p,J Y q,J Y r,J Y s] 35);have hown:=jp (yx HO2) Z1;have B3:=aj (yx HB2) Z1;have hsz:=(yx HB2).size;clear Z1 HO2 HB2;generalize az k=Pk at *;go_wp2_with (at_builtin;refine wpList_append_own _ rfl _ _ 239 rfl w.heap.size 35 i0 (.agg #[J Y 0,J Y 0,J Y 0,J Y 0]) 4 32 Tryz.underlying239 hinf hz0 hz1 hz2 rfl (by decide) _ _ _ rfl hown ⟨W2.heap.size,0,none⟩ 1 1 (ew [(p,q,r,s)]) rfl rfl ?d2 (fun u hu=>ry hu) ?d3 ?d4 ?d5 ?_)
    case d2=>first | exact fun j u h=>h | exact jN _ _ _
    case d3=>omega
    case d4=>omega
    case d5=>first | omega | (simp;omega)
    intro v7 V7 hown7 hgrow7 _;have HB8:=yz (Ft B3 hown hgrow7 (by simp;omega));have HO8:Hid (V7.ownsRow w.heap.size 35 4 v7 (az (k+1)).length (ew (az (k+1)))):=yz (by rw[yx HSN,uA,List.length_append];exact hown7);clear hown7 hgrow7 hown B3 e0 e1 e2 e3;go_wp2_with fail;go_roundw
    case rel=>exact⟨k+1,by omega,by go_num,HO8,HB8⟩
    case measure=>simp[intOf]<;>omega
  ·have hke:k=625:=by omega
   subst hke;go_wp2_with fail;go_ret;exact⟨⟨_,rfl,yx HO⟩,yx HB⟩
end
end Go.Proofs.YteoonaanoenjiaaGreatDoor
