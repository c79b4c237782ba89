/- Several texts in one: SkyI. -/
import Derived.Test.YteoonaanoenjiaaGreatDoorL6
namespace Go.Proofs.YteoonaanoenjiaaGreatDoor
set_option linter.unusedVariables false
set_option linter.unusedSimpArgs false
set_option maxRecDepth 100000
set_option maxHeartbeats 8000000
section
open Go.Value renaming int → J
open Go.IntKind renaming i64 → Z
open Go.RowKit Go.Sort
def oN(L:List St)(id:Int)(k:Nat):Prop:=∀j,j<k→(stA L j).1≠id
def atV(L:List St)(n:Nat)(id:Int):Int×Int×Int:=match (List.range n).find? (fun j=>decide ((stA L j).1=id)) with | none=>(0,0,0) | some j=>(stA L j).2
variable {id:Int} {k:Nat}
theorem qB{L:List St}{n:Nat}(h:oN L id n):atV L n id=(0,0,0):=by
 unfold atV
 have:(List.range n).find? (fun j=>decide ((stA L j).1=id))=none:=by
  rw[List.find?_eq_none];intro j hj;simp[h j (List.mem_range.1 hj)]
 rw[this]
theorem zJ{L:List St}{n:Nat}(hk:k<n)(h:oN L id k)(h1:(stA L k).1=id):atV L n id=(stA L k).2:=by
 unfold atV
 have:(List.range n).find? (fun j=>decide ((stA L j).1=id))=some k:=by
  rw[List.find?_range_eq_some];exact⟨by simp[h1],List.mem_range.2 hk,fun j hj=>by simp[h j hj]⟩
 rw[this]
theorem uV{L:List St}(h:oN L id k)(h1:(stA L k).1≠id):oN L id (k+1):=by
 intro j hj;by_cases e:j=k
 ·rw[e];exact h1
 ·exact h j (by omega)
def ze(L:List St)(id:Int):Int×Int×Int:=if bk L=true then atV L L.length id else (0,0,0)
def Bm(v:Int×Int×Int):Value:=.agg #[J Z v.1,J Z v.2.1,J Z v.2.2]
theorem uP(L:List St)(n:Nat)(id:Int)(a:Option Addr)(c:Nat)(w:World)(hn:n≤1048576)(hS:aH w a L n):
  Calls Tryz.prog 199 #[.slice a n c,J Z id] w fun e w'=>e=.returned (Bm (atV L n id))∧Below w.heap.size w w':=by
 rcases hS with rfl | ⟨b,o,rfl,hb,hc⟩
 ·have HO:Hid (atV L 0 id=(0,0,0)):=yz (qB (fun j hj=>absurd hj (Nat.not_lt_zero _)));go_enter Tryz.func199,Tryz.ntmps199;go_wp2_with fail;refine wp_loop_rounds 1 ?_;rw[rounds_succ];go_wp2_with fail;exact bodyPost_ret (v:=.agg #[J Z 0,J Z 0,J Z 0]) (by simp[results,Tryz.results199,go_sem]) rfl ⟨by rw[yx HO];rfl,ak _ _⟩
 go_enter Tryz.func199,Tryz.ntmps199;go_wp2_with fail;have hv:=aG w 0 0 0 111;have hf:=em w 0 0 0 111;have hB:=ak w (.cells #[J Z 0,J Z 0,J Z 0] 111);generalize w.alloc (.cells #[J Z 0,J Z 0,J Z 0] 111)=W at hv hf hB ⊢;have HC:Hid (∀i,i<n→jy W b (o+i*4) (stA L i)):=yz (fun i hi=>(hc i hi).kept hb hB);have HB:=yz hB;clear hc hB;obtain⟨v0,v1,v2⟩:=hv;obtain⟨f0,f1,f2⟩:=hf;go_loop [5] (fun i=>∃k:Nat,k≤n∧i=J Z k∧Hid (oN L id k)) (fun i=>n-(intOf i).toNat)
 case atStart=>exact⟨0,by omega,rfl,yz (fun j hj=>absurd hj (Nat.not_lt_zero _))⟩
 case round=>
  obtain⟨k,hk,rfl,HF⟩:=hrel;by_cases hkn:k<n
  ·obtain⟨⟨s1,s2,s3,s4⟩,hs⟩:∃s,stA L k=s:=⟨_,rfl⟩
   have hst:=(yx HC) k hkn;rw[hs]at hst;obtain⟨c0,c1,c2,c3⟩:=hst;have HT:=yz hs;clear hs;by_cases hq:s1=id
   ·have HO:Hid (atV L n id=(s2,s3,s4)):=yz (by rw[zJ hkn (yx HF) (by rw[yx HT];exact hq),yx HT]);have hq':(s1==id)=true:=by simp[hq]
    clear hq;go_wp2_with fail;exact bodyPost_ret (v:=.agg #[J Z s2,J Z s3,J Z s4]) (by simp[results,Tryz.results199,go_sem,v0,v1,v2]) rfl ⟨by rw[yx HO];rfl,bT (yx HB) (Nat.le_refl _) _ _ _⟩
   ·have HF2:=yz (uV (yx HF) (by rw[yx HT];exact hq));have hq':(s1==id)=false:=by simp[hq]
    clear hq;go_wp2_with fail;go_round
    case rel=>exact⟨k+1,by omega,by go_num,HF2⟩
    case measure=>simp[intOf];omega
  ·have hkn':k=n:=by omega
   subst hkn';have HO:=yz (qB (yx HF));go_wp2_with fail;exact bodyPost_ret (v:=.agg #[J Z 0,J Z 0,J Z 0]) (by simp[results,Tryz.results199,go_sem,v0,v1,v2]) rfl ⟨by rw[yx HO];rfl,bT (yx HB) (Nat.le_refl _) _ _ _⟩
theorem AI(L:List St)(id:Int)(a:Option Addr)(c:Nat)(p:Addr)(w:World)(hn:L.length≤1048576)(hcap:L.length≤c)(hc9:c≤9223372036854775807)(hS:aH w a L L.length)(hE:bm p w):
  Calls Tryz.prog 219 #[.slice a L.length c,J Z id] w fun e w'=>e=.returned (Bm (ze L id))∧Below w.heap.size w w':=by
 have cS:=yz (fun (W:World) hW hE=>gE L a c p W hn hcap hc9 hW hE);have HS:=yz hS;have HE:=yz hE;clear hS hE;have HV:=yz (show ze L id=if bk L=true then atV L L.length id else (0,0,0) from rfl);generalize L.length=n at *;have V0:=yz (aG w 0 0 0 111);have F0:=yz (em w 0 0 0 111);have B0:=yz (ak w (.cells #[J Z 0,J Z 0,J Z 0] 111));go_enter Tryz.func219,Tryz.ntmps219;go_wp2_with fail;refine(yx cS _ ((yx HS).kept (yx B0)) ((yx HE).kept (yx B0))).mono ?_;rintro e w1 ⟨rfl,hx⟩;have HB:=aA B0 hx;have V1:=yz ((yx V0).kept (by simp) hx);have F1:=yz ((yx F0).kept (by simp) hx);clear hx V0 F0 B0;cases hk:bk L
 ·rw[hk]at HV;obtain⟨v0,v1,v2⟩:=yx V1;obtain⟨f0,f1,f2⟩:=yx F1;clear hk;go_wp2_with fail;exact bodyPost_ret (v:=.agg #[J Z 0,J Z 0,J Z 0]) (by simp[results,Tryz.results219,go_sem,v0,v1,v2]) rfl ⟨by rw[yx HV];rfl,bT (yx HB) (Nat.le_refl _) _ _ _⟩
 rw[hk]at HV;have HV':Hid (ze L id=atV L n id):=yz (by rw[yx HV];rfl);clear hk HV;rcases yx HS with rfl | ⟨b,o,rfl,hb,hc⟩
 ·have HO:Hid (atV L 0 id=(0,0,0)):=yz (qB (fun j hj=>absurd hj (Nat.not_lt_zero _)));obtain⟨v0,v1,v2⟩:=yx V1;obtain⟨f0,f1,f2⟩:=yx F1;go_wp2_with fail;refine wp_loop_rounds 1 ?_;rw[rounds_succ];go_wp2_with fail;exact bodyPost_ret (v:=.agg #[J Z 0,J Z 0,J Z 0]) (by simp[results,Tryz.results219,go_sem,v0,v1,v2]) rfl ⟨by rw[yx HV',yx HO];rfl,bT (yx HB) (Nat.le_refl _) _ _ _⟩
 have HC:=yz hc;clear hc;go_wp2_with fail;go_loopw [13] (fun i wr=>∃k:Nat,k≤n∧i=J Z k∧Hid (oN L id k)∧Hid (Below w.heap.size w wr)∧Hid (aD wr w.heap.size 0 0 0)∧Hid (dE wr w.heap.size)) (fun i _=>n-(intOf i).toNat)
 case atStart=>exact⟨0,by omega,rfl,yz (fun j hj=>absurd hj (Nat.not_lt_zero _)),HB,V1,F1⟩
 case round=>
  clear HB V1 F1;obtain⟨k,hk,rfl,HF,HB,V1,F1⟩:=hrel;by_cases hkn:k<n
  ·obtain⟨⟨s1,s2,s3,s4⟩,hs⟩:∃s,stA L k=s:=⟨_,rfl⟩
   have hst:=((yx HC) k hkn).kept hb (yx HB);rw[hs]at hst;obtain⟨c0,c1,c2,c3⟩:=hst;have HT:=yz hs;clear hs;have B2:=yz ((yx HB).alloc (yx HB).size (.cells #[J Z s1,J Z s2,J Z s3,J Z s4] 113));have V2:=yz ((yx V1).kept (vlt (yx V1)) (ak wr (.cells #[J Z s1,J Z s2,J Z s3,J Z s4] 113)));have F2:=yz ((yx F1).kept (vlt (yx V1)) (ak wr (.cells #[J Z s1,J Z s2,J Z s3,J Z s4] 113)));obtain⟨v0,v1,v2⟩:=yx V2;obtain⟨f0,f1,f2⟩:=yx F2;by_cases hq:s1=id
   ·have HO:Hid (atV L n id=(s2,s3,s4)):=yz (by rw[zJ hkn (yx HF) (by rw[yx HT];exact hq),yx HT]);have hq':(s1==id)=true:=by simp[hq]
    clear hq;go_wp2_with fail;exact bodyPost_ret (v:=.agg #[J Z s2,J Z s3,J Z s4]) (by simp[results,Tryz.results219,go_sem,v0,v1,v2]) rfl ⟨by rw[yx HV',yx HO];rfl,bT (yx B2) (Nat.le_refl _) _ _ _⟩
   ·have HF2:=yz (uV (yx HF) (by rw[yx HT];exact hq));have hq':(s1==id)=false:=by simp[hq]
    clear hq;go_wp2_with fail;go_roundw
    case rel=>exact⟨k+1,by omega,by go_num,HF2,B2,V2,F2⟩
    case measure=>simp[intOf];omega
  ·have hkn':k=n:=by omega
   subst hkn';have HO:=yz (qB (yx HF));obtain⟨v0,v1,v2⟩:=yx V1;obtain⟨f0,f1,f2⟩:=yx F1;go_wp2_with fail;exact bodyPost_ret (v:=.agg #[J Z 0,J Z 0,J Z 0]) (by simp[results,Tryz.results219,go_sem,v0,v1,v2]) rfl ⟨by rw[yx HV',yx HO];rfl,bT (yx HB) (Nat.le_refl _) _ _ _⟩
end
end Go.Proofs.YteoonaanoenjiaaGreatDoor
