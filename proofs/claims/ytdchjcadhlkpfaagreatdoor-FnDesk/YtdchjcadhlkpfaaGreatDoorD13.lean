/- Several texts in one: IeD, IeE, IeF, IeG, IeH, IeI, IeJ, IeK, IeL. -/
import Derived.Maps.OwnSet
import Derived.Maps.Views
import Derived.RangeFuncNested
import Derived.RangeFuncBound
import Derived.RangeFuncCalls
import Derived.RangeFuncLeaves
import Derived.Shelf.Abstract
import Derived.Shelf.RegionOpen
import Derived.OwnWalkIn
import Derived.TacticsInMore
import Derived.LoopNIn
import Derived.LoopIn
import Derived.Maps.OwnIn
import Derived.Test.YtdchjcadhlkpfaaGreatDoorD12
namespace Go.Proofs.YtdchjcadhlkpfaaGreatDoor
set_option linter.unusedVariables false
set_option linter.unusedSimpArgs false
set_option maxRecDepth 100000
set_option maxHeartbeats 8000000
section
open Go.Value renaming int → J
open Go.IntKind renaming i64 → Z
open Go.RowKit Go.Sort
theorem Dn{L:List St}{i:Nat}(hi:i<L.length):(L.map (·.1)).getD i 0=(stA L i).1:=by
 unfold stA;rw[List.getD_eq_getElem?_getD,List.getElem?_map,List.getD_eq_getElem?_getD,List.getElem?_eq_getElem hi];rfl
theorem rP{L:List St}(hk:bc L=true){i:Nat}(hi:i<L.length):aU (atV L L.length (stA L i).1).1 (atV L L.length (stA L i).1).2.1 (atV L L.length (stA L i).1).2.2=true∧(stA L i).1≠0:=by
 rw[uk hk hi];have h:=(cg hk).2 i hi;unfold eV at h;simp only[Bool.and_eq_true]at h;refine⟨?_,fun e=>?_⟩
 ·simp_all
 ·have:idB (stA L i).1=true:=by simp_all
  rw[e]at this;exact absurd this (by decide)
theorem AW(L:List St)(S:List D3)(ar br:Option Addr)(cr dr x r:Nat)(hk:bc L=true)(hsp:ba S=true)(hdr:S.length≤dr)(hd9:dr≤9223372036854775807)(ih:Ch L S ar br cr dr x r)
  (ids:List Int) (s:SeN) (ir:Option Addr) (er:Nat) (w:World) (hl:ids.length+(r+1)=S.length) (hsm:vu L ids) (hmany:s.many+13 ^ (r+1)≤100000000) (hc6:s.count≤6) (he:ir=none→er=0) (hI:lP w x ir ids) (hst:ky w x L S ar br cr dr s) (hp:¬aY ids+(r+1)<s.count) :
  Calls Tryz.prog 80 #[.pointer (some ⟨x,0,none⟩),.slice ir ids.length er,J Z (aY ids:Int)] w fun e w'=>(∃v,e=.returned v)∧ky w' x L S ar br cr dr (eI (dB L S) (L.map (·.1)) (r+1) ids s)∧w.grownBy w' (some x):=by
 have hn12:L.length≤12:=(cg hk).1;have hm6:S.length≤6:=(bS hsp).1;have hAl:(L.map (·.1)).length=L.length:=List.length_map _;have HF:=yz (yK (F:=dB L S) (A:=L.map (·.1)) hp);have HIH:=yz ih;have HE:=yz he;have HSM:=yz hsm;have HS:=yz hst;have HI0:=yz hI
 have cF:Hid (∀(id:Int) (W:World),aU (atV L L.length id).1 (atV L L.length id).2.1 (atV L L.length id).2.2=true→aZ W ar L L.length→dh W br S S.length→hU W ir ids ids.length→Calls Tryz.prog 102 #[.slice ar L.length cr,.slice br (ids.length+1) dr,.slice ir ids.length er,J Z id] W fun e w'=>e=.returned (.bool (dB L S ids id))∧Below W.heap.size W w'):=
  yz (fun id W h1 h2 h3 h4=>wX L S ids ids.length id ar br ir cr dr er W (by omega) hn12 h2 (h3.less (by omega)) h4 (fun i hi=>nA ((bS hsp).2 i (by omega))) h1 (fun i hi h0=>hsm i hi h0))
 have HMB:Hid (∀i,i≤L.length→(fL (dB L S) (L.map (·.1)) r ids s i).many+13 ^ r≤100000000):=yz (fun i hi=>by
  have h1:=qV (dB L S) (L.map (·.1)) (by omega) r ids s i (by omega);have h2:i*13 ^ r≤12*13 ^ r:=Nat.mul_le_mul_right _ (by omega);rw[Nat.pow_succ]at hmany
  omega)
 have HCB:Hid (∀i,i≤L.length→(fL (dB L S) (L.map (·.1)) r ids s i).count≤6):=yz (fun i hi=>qX (dB L S) (L.map (·.1)) r ids s hc6 (by omega) i (by omega));have hc:=lh ids;have hkm:ids.length+1≤S.length:=by omega
 have hk6:ids.length≤6:=by omega
 have hq:¬(aY ids+S.length-ids.length<s.count):=by omega
 obtain⟨⟨v,h1,h2⟩,hf,hs,hd,a1,a2⟩:=hst;obtain⟨c0,c1,c2,c3,c4⟩:=h1;have r1:=cell_regrown c1;have r3:=cell_regrown c3;clear h2 hf hs hd a1 a2 c0 c1 c2 c3 c4 hI ih he hsm hmany hp;have hq':¬(aY ids:Int)+(S.length:Int)-(ids.length:Int)<(s.count:Int):=by omega
 have hne:¬(ids.length:Int)=(S.length:Int):=by omega
 have e31:((ids.length:Int)==(S.length:Int))=false:=by rw[beq_eq_false_iff_ne];exact hne
 go_enter Tryz.func80,Tryz.ntmps80;go_wp2_with fail;refine dg ?_;repeat (go_big_quiet_step (fail))
 refine dv fun dq osq=>?_;have hx:=below_regrown w dq osq;generalize grow (redrawn w dq) osq=w1 at hx ⊢;have S1:=ap HS hx;have I1:=yz ((yy HI0).grown (dj (x:=x) hx));have G1:=yz (dj (x:=x) hx);clear hx r1 r3 HS;obtain⟨⟨v,h1,h2⟩,hf,hs,hd,a1,a2⟩:=yy S1;obtain⟨c0,c1,c2,c3,c4⟩:=h1;clear h2 hf hs hd a1 a2;go_wp2_with fail;go_loopw [7] (fun i wr=>∃k:Nat,k≤L.length∧i=J Z k∧Hid (ky wr x L S ar br cr dr (fL (dB L S) (L.map (·.1)) r ids s k))∧Hid (w.grownBy wr (some x))) (fun i _=>L.length-(intOf i).toNat)
 case atStart=>exact⟨0,Nat.zero_le _,rfl,yz (by rw[qW];exact yy S1),G1⟩
 case round=>
  clear c0 c1 c2 c3 c4 S1 G1 I1;obtain⟨k,hkl,rfl,HSt,HG⟩:=hrel;have HI:=yz ((yy HI0).grown (yy HG));obtain⟨⟨v,h1,h2⟩,hf,hs,hd,a1,a2⟩:=yy HSt;obtain⟨c0,c1,c2,c3,c4⟩:=h1;by_cases hkn:k<L.length
  ·obtain⟨⟨s1,s2,s3,s4⟩,hst⟩:∃q,stA L k=q:=⟨_,rfl⟩
   have hsm1:=rP hk hkn;have HMA:Hid ((L.map (·.1)).getD k 0=s1):=yz (by rw[Dn hkn,hst]);rw[hst]at hsm1;have HST:=yz hst;have hkn2:(k:Int)<(L.length:Int):=by omega
   rcases hs with hs | ⟨b,o,rfl,hb,hcs⟩
   ·omega
   have d0:=(hcs k hkn).1;rw[hst]at d0;have HS2:Hid (aZ wr (some ⟨b,o,none⟩) L L.length):=yz (.inr ⟨b,o,rfl,hb,hcs⟩);have HD2:=yz hd;have cFi:=yz (fun (W:World) (hB:Below wr.heap.size wr W)=>yy cF s1 W hsm1.1 ((yy HS2).kept hB) ((yy HD2).kept hB) ((yy HI).nums.kept hB));have HS1:=yz hsm1;clear hcs hst h2 hf hd a1 a2 hsm1;go_wp2_with fail;have q0:=cell_regrown c0;have q1:=cell_regrown c1;have hkd:(ids.length:Int)+1≤(dr:Int):=by omega
   cases hfit:dB L S ids s1
   ·rw[hfit]at cFi;refine dg ?_;repeat (go_big_quiet_step (first | (with_reducible exact Calls.regrown_of (yy cFi _ (below_regrown _ _ _)))))
    refine wpQuiet_nil ?_;intro _ hw';obtain⟨⟨dq2,osq2⟩,hw''⟩:=hw';subst hw'';have hx:=below_regrown wr dq2 osq2;generalize grow (redrawn wr dq2) osq2=W2 at hx ⊢;have HR:Hid (fL (dB L S) (L.map (·.1)) r ids s (k+1)=fL (dB L S) (L.map (·.1)) r ids s k):=yz (by rw[kh _ _ _ _ _ (by omega),yy HMA,hfit];rfl);have S5:Hid (ky W2 x L S (some ⟨b,o,none⟩) br cr dr (fL (dB L S) (L.map (·.1)) r ids s (k+1))):=yz (by rw[yy HR];exact(yy HSt).kept hx);have G5:=yz (iY (yy HG) (dj (x:=x) hx));clear hx c0 c1 c2 c3 c4 d0 q0 q1 HSt HG HI cFi;go_wp2_with fail;go_roundw
    case rel=>first | exact⟨k+1,by omega,by go_num,S5,G5⟩ | exact⟨k+1,by omega,by go_num,S5⟩
    case measure=>simp[intOf];omega
   ·rw[hfit]at cFi;refine dg ?_;repeat (go_big_quiet_step (first | (with_reducible exact Calls.regrown_of (yy cFi _ (below_regrown _ _ _)))))
    refine wpQuiet_nil ?_;intro _ hw';obtain⟨⟨dq2,osq2⟩,hw''⟩:=hw';subst hw'';have hx:=below_regrown wr dq2 osq2;generalize grow (redrawn wr dq2) osq2=W2 at hx ⊢;have HR:Hid (fL (dB L S) (L.map (·.1)) r ids s (k+1)=eI (dB L S) (L.map (·.1)) r (ids ++ [s1]) (fL (dB L S) (L.map (·.1)) r ids s k)):=yz (by rw[kh _ _ _ _ _ (by omega),yy HMA,hfit];rfl);replace HSt:=ap HSt hx;replace HG:=yz (iY (yy HG) (dj (x:=x) hx));replace HI:=yz ((yy HI).grown (dj (x:=x) hx));clear hx c0 c1 c2 c3 c4 d0 q0 q1 cFi HS2 HD2;have hlx:x<W2.heap.size:=by obtain⟨⟨_,hh,_⟩,_⟩:=yy HSt;exact hh.lt
    have HN:=yz (jB W2 W2.heap.size (Nat.le_refl _));have IA:=yz ((yy HI).grown (dj (x:=x) (an W2 (.cells #[] 2))));go_wp2_with (at_builtin;refine gz _ rfl _ _ rfl W2.heap.size W2.heap.size rfl (yy HN) x ir er ids rfl (yy HE) (yy IA) hk6 ?d1 ?_);try case d1=>simp
    intro v1 V1 ho1 hg1;obtain⟨av,cv,rfl⟩:=gu ho1;have HB1:Hid (Below W2.heap.size W2 V1):=yz ((an W2 (.cells #[] 2)).trans ⟨hg1.os,hg1.tape,hg1.output,hg1.size,fun k hk'=>hg1.block k (by simp;omega) (fun e=>by have:=Option.some.inj e;omega)⟩);have O4:=yz (EY ho1 (an V1 (.cells #[J Z s1] 2)));have HC1:Hid ((V1.alloc (.cells #[J Z s1] 2)).cell? ⟨V1.heap.size,0,none⟩=some (J Z s1)):=yz (by simp);clear ho1 hg1 IA HN;go_wp2_with (at_builtin;refine ld _ rfl _ _ rfl W2.heap.size (.slice av ids.length cv) ids rfl (yy O4) V1.heap.size s1 rfl (yy HC1) hk6 ?d2 ?_);try case d2=>have:=(yy HB1).size;simp;omega
    intro v2 V2 ho2 hg2;obtain⟨aw,cw,rfl⟩:=gu ho2;have hrow:∀g,Value.ownBlock (.slice av ids.length cv)=some g→W2.heap.size≤g:=fun g e=>DB (yy O4) g e;have hB2:Below W2.heap.size W2 V2:=(ak (yy HB1) (an V1 (.cells #[J Z s1] 2))).trans ⟨hg2.os,hg2.tape,hg2.output,by have:=(yy HB1).size;have:=hg2.size;simp at this ⊢;omega,fun k hk'=>hg2.block k (by have:=(yy HB1).size;simp;omega) (fun e=>by have:=hrow k e.symm;omega)⟩;have S5:=ap HSt hB2;have G5:=yz (iY (yy HG) (dj (x:=x) hB2));have I5:=yz (Ab (ids:=ids ++ [s1]) (by rw[List.length_append,List.length_singleton];exact ho2) hlx);have E5:=yz (xF ho2);have M5:=yz (rB (yy HSM) (fun _=>(yy HS1).1));have C5:Hid ((aY (ids ++ [s1]):Int)=(aY ids:Int)+1):=yz (by rw[ju];rw[if_pos (yy HS1).2];omega);clear ho2 hg2 hrow hB2 HB1 O4 HC1 HSt HI HG hlx;have cI:=yz (fun (h1:_) (h2:_)=>yy HIH (ids ++ [s1]) (fL (dB L S) (L.map (·.1)) r ids s k) aw cw V2 (by rw[List.length_append,List.length_singleton];omega) (yy M5) h1 h2 (yy E5) (yy I5) (yy S5));rw[yy C5,List.length_append,List.length_singleton]at cI;go_wp2_with fail;refine(yy cI (yy HMB k (by omega)) (yy HCB k (by omega))).mono ?_;rintro e W6 ⟨⟨ve,rfl⟩,hS6,hG6⟩;have S6:Hid (ky W6 x L S (some ⟨b,o,none⟩) br cr dr (fL (dB L S) (L.map (·.1)) r ids s (k+1))):=yz (by rw[yy HR];exact hS6);have G6:=yz (iY (yy G5) hG6);clear hS6 hG6 S5 G5 I5 E5 M5 C5 cI;go_wp2_with fail;go_roundw
    case rel=>first | exact⟨k+1,by omega,by go_num,S6,G6⟩ | exact⟨k+1,by omega,by go_num,S6⟩ | exact⟨J Z ((k:Int)+1),_,_,_,_,_,_,_,_,_,_,_,_,_,_,_,_,_,_,_,_,_,_,_,_,_,_,_,_,_,_,_,_,_,_,_,_,_,_,_,_,_,_,⟨k+1,by omega,by go_num,S6,G6⟩,rfl⟩
    case measure=>simp[intOf];omega
  ·obtain rfl:k=L.length:=by omega
   clear h2 hf hs hd a1 a2;have hlx:x<wr.heap.size:=by obtain⟨⟨_,hh,_⟩,_⟩:=yy HSt;exact hh.lt
   have HN:=yz (jB wr wr.heap.size (Nat.le_refl _));have IA:=yz ((yy HI).grown (dj (x:=x) (an wr (.cells #[] 2))));go_wp2_with (at_builtin;(refine gz _ rfl _ _ rfl wr.heap.size wr.heap.size rfl (yy HN) x ir er ids rfl (yy HE) (yy IA) hk6 ?d3 ?_));try case d3=>simp
   intro v1 V1 ho1 hg1;obtain⟨av,cv,rfl⟩:=gu ho1;have HB1:Hid (Below wr.heap.size wr V1):=yz ((an wr (.cells #[] 2)).trans ⟨hg1.os,hg1.tape,hg1.output,hg1.size,fun k hk'=>hg1.block k (by simp;omega) (fun e=>by have:=Option.some.inj e;omega)⟩);have O4:=yz (EY ho1 (an V1 (.cells #[J Z 0] 2)));have HC1:Hid ((V1.alloc (.cells #[J Z 0] 2)).cell? ⟨V1.heap.size,0,none⟩=some (J Z 0)):=yz (by simp);clear ho1 hg1 IA HN;go_wp2_with (at_builtin;refine ld _ rfl _ _ rfl wr.heap.size (.slice av ids.length cv) ids rfl (yy O4) V1.heap.size 0 rfl (yy HC1) hk6 ?d4 ?_);try case d4=>have:=(yy HB1).size;simp;omega
   intro v2 V2 ho2 hg2;obtain⟨aw,cw,rfl⟩:=gu ho2;have hrow:∀g,Value.ownBlock (.slice av ids.length cv)=some g→wr.heap.size≤g:=fun g e=>DB (yy O4) g e;have hB2:Below wr.heap.size wr V2:=(ak (yy HB1) (an V1 (.cells #[J Z 0] 2))).trans ⟨hg2.os,hg2.tape,hg2.output,by have:=(yy HB1).size;have:=hg2.size;simp at this ⊢;omega,fun k hk'=>hg2.block k (by have:=(yy HB1).size;simp;omega) (fun e=>by have:=hrow k e.symm;omega)⟩;have S5:=ap HSt hB2;have G5:=yz (iY (yy HG) (dj (x:=x) hB2));have I5:=yz (Ab (ids:=ids ++ [0]) (by rw[List.length_append,List.length_singleton];exact ho2) hlx);have E5:=yz (xF ho2);have M5:=yz (rB (yy HSM) (fun h=>absurd rfl h));have C5:Hid ((aY (ids ++ [0]):Int)=(aY ids:Int)):=yz (by rw[ju];simp);clear ho2 hg2 hrow hB2 HB1 O4 HC1 HSt HI HG hlx;have cI:=yz (fun (h1:_) (h2:_)=>yy HIH (ids ++ [0]) (fL (dB L S) (L.map (·.1)) r ids s L.length) aw cw V2 (by rw[List.length_append,List.length_singleton];omega) (yy M5) h1 h2 (yy E5) (yy I5) (yy S5));rw[yy C5,List.length_append,List.length_singleton]at cI;go_wp2_with fail;refine(yy cI (yy HMB _ (Nat.le_refl _)) (yy HCB _ (Nat.le_refl _))).mono ?_;rintro e W6 ⟨⟨ve,rfl⟩,hS6,hG6⟩;have S6:=yz hS6;have G6:=yz (iY (yy G5) hG6);clear hS6 hG6 S5 G5 I5 E5 M5 C5 cI;go_wp2_with fail;go_end0
   refine⟨⟨_,rfl⟩,?_,yy G6⟩;rw[yy HF,hAl];exact yy S6
end
section
open Go.Value renaming int → J
open Go.IntKind renaming i64 → Z
open Go.RowKit Go.Sort
theorem wG(L:List St)(S:List D3)(ar br:Option Addr)(cr dr x:Nat)(hk:bc L=true)(hsp:ba S=true)(hdr:S.length≤dr)(hd9:dr≤9223372036854775807):∀r,Ch L S ar br cr dr x r
 | 0=>fun ids s ir er w hl hsm hm hc he hI hst=>by
  by_cases hp:aY ids+0<s.count
  ·exact qH L S ar br cr dr x 0 (bS hsp).1 ids s ir er w hl hc hst hp
  ·exact AV L S ar br cr dr x (bS hsp).1 ids s ir er w hl (by simpa using hm) hc he hI hst hp
 | r+1=>fun ids s ir er w hl hsm hm hc he hI hst=>by
  by_cases hp:aY ids+(r+1)<s.count
  ·exact qH L S ar br cr dr x (r+1) (bS hsp).1 ids s ir er w hl hc hst hp
  ·exact AW L S ar br cr dr x r hk hsp hdr hd9 (wG L S ar br cr dr x hk hsp hdr hd9 r) ids s ir er w hl hsm hm hc he hI hst hp
def idR(L:List St)(S:List D3):SeN:=eI (dB L S) (L.map (·.1)) S.length [] ⟨[],3,0⟩
def cj(L:List St)(S:List D3):List Int:=if (idR L S).many=1 then (idR L S).best else []
def fh(L:List St)(S:List D3):Int:=if (idR L S).many=1 then ((idR L S).count:Int) else 0
def bK(L:List St)(S:List D3):Int:=if (idR L S).many=0 then 6 else if 1<(idR L S).many then 11 else 0
def Cj(w':World)(B:Nat)(ids:List Int)(cnt code:Int)(e:Ending):Prop:=∃v,e=.returned (.agg #[v,J Z cnt,J Z code])∧w'.ownsRow B 2 1 v ids.length (fH ids)
def IdO(w:World)(b:Nat)(v:Value)(c k:Int):Prop:=w.cell? ⟨b,0,none⟩=some v∧w.cell? ⟨b,1,none⟩=some (J Z c)∧w.cell? ⟨b,2,none⟩=some (J Z k)
variable {v:Value} {w w':World}
theorem IdO.grown{b:Nat}{c k:Int}{row:Option Nat}(h:IdO w b v c k)(hg:w.grownBy w' row)(hne:some b≠row):IdO w' b v c k:=⟨eD h.1 hg hne,eD h.2.1 hg hne,eD h.2.2 hg hne⟩
theorem IdO.kept{b:Nat}{c k:Int}(h:IdO w b v c k)(hB:Below w.heap.size w w'):IdO w' b v c k:=⟨bC h.1 hB,bC h.2.1 hB,bC h.2.2 hB⟩
theorem gp{b:Nat}{v0:Value}{c0 k0:Int}(h:IdO w b v0 c0 k0)(v:Value)(c k:Int):IdO (((w.setCell ⟨b,0,none⟩ v).setCell ⟨b,1,none⟩ (J Z c)).setCell ⟨b,2,none⟩ (J Z k)) b v c k:=by
 obtain⟨h0,h1,h2⟩:=h;refine⟨?_,?_,?_⟩<;>simp[go_sem,h0,h1,h2]
theorem vk(T:Array Value)(X:World)(b:Nat)(v:Value)(c k:Int)(hT:T.getD 4 undef=.pointer (some ⟨b,0,none⟩))(h:IdO X b v c k):(results Tryz.f61 T).run Tryz.prog X=.ok (.agg #[v,J Z c,J Z k]) X:=by
 obtain⟨h0,h1,h2⟩:=h;simp only[Array.getD_eq_getD_getElem?]at hT;simp[results,Tryz.results61,go_sem,hT,h0,h1,h2]
theorem lz{B b n:Nat}{xs:List Value}(h:w.ownsRow B 2 1 v n xs)(hb:b<B)(o:Nat)(y:Value):(w.setCell ⟨b,o,none⟩ y).ownsRow B 2 1 v n xs:=by
 obtain⟨h1,h2⟩:=h;refine⟨h1,?_⟩;rcases h2 with h2 | ⟨g,c',cur,e,hg,hh,r⟩
 ·exact .inl h2
 ·exact .inr ⟨g,c',cur,e,hg,by rw[Below.heap_setCell w ⟨b,o,none⟩ y g (by show g≠b;omega)];exact hh,r⟩
theorem kt(L:List St)(S:List D3)(ar br:Option Addr)(cr dr:Nat)(w:World)(hk:bc L=true)(hsp:ba S=true)(hdr:S.length≤dr)(hd9:dr≤9223372036854775807)(hS:aZ w ar L L.length)(hD:dh w br S S.length)(hA:∀y,ar=some y→y.block<w.heap.size)(hB:∀y,br=some y→y.block<w.heap.size):
  Calls Tryz.prog 61 #[.slice ar L.length cr,.slice br S.length dr] w fun e w'=>Cj w' w.heap.size (cj L S) (fh L S) (bK L S) e∧Below w.heap.size w w':=by
 have B0:=aX w (.cells #[.slice none 0 0,J Z 0,J Z 0] 83) (.cells #[.slice ar L.length cr,.slice br S.length dr,.slice none 0 0,J Z 3,J Z 0] 139);have R0:IdO ((w.alloc (.cells #[.slice none 0 0,J Z 0,J Z 0] 83)).alloc (.cells #[.slice ar L.length cr,.slice br S.length dr,.slice none 0 0,J Z 3,J Z 0] 139)) w.heap.size (.slice none 0 0) 0 0:=IdO.kept (w:=w.alloc (.cells #[.slice none 0 0,J Z 0,J Z 0] 83)) (by refine⟨?_,?_,?_⟩<;>simp) (an _ _);have F0:ig ((w.alloc (.cells #[.slice none 0 0,J Z 0,J Z 0] 83)).alloc (.cells #[.slice ar L.length cr,.slice br S.length dr,.slice none 0 0,J Z 3,J Z 0] 139)) w.heap.size:=ig.kept (w:=w.alloc (.cells #[.slice none 0 0,J Z 0,J Z 0] 83)) (fun i=>by simp) (by simp) (an _ _)
 have St0:ky ((w.alloc (.cells #[.slice none 0 0,J Z 0,J Z 0] 83)).alloc (.cells #[.slice ar L.length cr,.slice br S.length dr,.slice none 0 0,J Z 3,J Z 0] 139)) (w.heap.size+1) L S ar br cr dr ⟨[],3,0⟩:=by
  refine⟨⟨.slice none 0 0,?_,World.ownsRow_nil _ _ _ _⟩,?_,hS.kept B0,hD.kept B0,fun y e=>by have:=hA y e;omega,fun y e=>by have:=hB y e;omega⟩
  ·refine⟨?_,?_,?_,?_,?_⟩<;>simp
  ·intro i;simp
 have cM:=yz (wG L S ar br cr dr (w.heap.size+1) hk hsp hdr hd9 S.length [] ⟨[],3,0⟩ none 0 _ (by simp) (fun i hi=>absurd hi (by simp)) (by have h6:=(bS hsp).1;have:13 ^ S.length≤13 ^ 6:=Nat.pow_le_pow_right (by decide) h6;simp only;omega) (by decide) (fun _=>rfl) (.inl ⟨rfl,rfl⟩) St0);have HB:=yz B0;have HR:=yz R0;have HF:=yz F0;have hsz:((w.alloc (.cells #[.slice none 0 0,J Z 0,J Z 0] 83)).alloc (.cells #[.slice ar L.length cr,.slice br S.length dr,.slice none 0 0,J Z 3,J Z 0] 139)).heap.size=w.heap.size+2:=by simp
 clear B0 R0 F0 St0 hS hD hA hB;go_enter Tryz.func61,Tryz.ntmps61;go_wp2_with fail;generalize hW:(w.alloc (.cells #[.slice none 0 0,J Z 0,J Z 0] 83)).alloc (.cells #[.slice ar L.length cr,.slice br S.length dr,.slice none 0 0,J Z 3,J Z 0] 139)=W at *;clear hW;refine(yy cM).mono ?_;rintro e w1 ⟨⟨ve,rfl⟩,hS1,hG1⟩;have HI:Hid (eI (dB L S) (L.map (·.1)) S.length [] ⟨[],3,0⟩=idR L S):=yz rfl;rw[yy HI]at hS1;have B1:Hid (Below w.heap.size w w1):=yz ((yy HB).trans ⟨hG1.os,hG1.tape,hG1.output,by have:=hG1.size;omega,fun k hk'=>hG1.block k (by omega) (fun e=>by have:=Option.some.inj e;omega)⟩);have R1:=yz ((yy HR).grown hG1 (fun e=>by have:=Option.some.inj e;omega));have F1:=yz ((yy HF).grown (by omega) hG1 (fun e=>by have:=Option.some.inj e;omega));obtain⟨⟨vb,h1,h2⟩,hf,hs,hd,a1,a2⟩:=hS1;have O1:=yz h2;obtain⟨av,cv,rfl⟩:=gu h2;have H1:=yz h1;clear hf hs hd a1 a2 h2 hG1 HB HR HF cM;have hO1:(idR L S).many=0→Hid (cj L S=[]∧fh L S=0∧bK L S=6):=fun h=>yz (by unfold cj fh bK;rw[if_neg (by omega),if_neg (by omega),if_pos h];exact⟨rfl,rfl,rfl⟩);have hO2:1<(idR L S).many→Hid (cj L S=[]∧fh L S=0∧bK L S=11):=fun h=>yz (by unfold cj fh bK;rw[if_neg (by omega),if_neg (by omega),if_neg (by omega),if_pos h];exact⟨rfl,rfl,rfl⟩);have hO3:(idR L S).many=1→Hid (cj L S=(idR L S).best∧fh L S=((idR L S).count:Int)∧bK L S=0):=fun h=>yz (by unfold cj fh bK;rw[if_pos h,if_pos h,if_neg (by omega),if_neg (by omega)];exact⟨rfl,rfl,rfl⟩);generalize idR L S=s at *;obtain⟨bst,ct,mn⟩:=s;dsimp only at h1 O1 hO1 hO2 hO3;obtain⟨c0,c1,c2,c3,c4⟩:=h1;obtain⟨r0,r1,r2⟩:=yy R1;have f0:=yy F1 0;have f1:=yy F1 1;have f2:=yy F1 2;by_cases m0:mn=0
 ·have HO:=hO1 m0;subst m0;clear hO1 hO2 hO3;go_wp2_with fail;clear c0 c1 c2 c3 c4 r0 r1 r2 f0 f1 f2;refine bodyPost_ret (v:=.agg #[.slice none 0 0,J Z 0,J Z 6]) (vk _ _ w.heap.size _ 0 6 rfl (gp (yy R1) _ _ _)) rfl ⟨?_,((((yy B1).setCell (Nat.le_refl _) _).setCell (Nat.le_refl _) _).setCell (Nat.le_refl _) _)⟩;rw[(yy HO).1,(yy HO).2.1,(yy HO).2.2];exact⟨_,rfl,World.ownsRow_nil _ _ _ _⟩
 by_cases m1:1<mn
 ·have HO:=hO2 m1;have m0':¬(mn:Int)=0:=by omega
  have m1':(1:Int)<(mn:Int):=by omega
  clear hO1 hO2 hO3;go_wp2_with fail;clear c0 c1 c2 c3 c4 r0 r1 r2 f0 f1 f2;refine bodyPost_ret (v:=.agg #[.slice none 0 0,J Z 0,J Z 11]) (vk _ _ w.heap.size _ 0 11 rfl (gp (yy R1) _ _ _)) rfl ⟨?_,((((yy B1).setCell (Nat.le_refl _) _).setCell (Nat.le_refl _) _).setCell (Nat.le_refl _) _)⟩;rw[(yy HO).1,(yy HO).2.1,(yy HO).2.2];exact⟨_,rfl,World.ownsRow_nil _ _ _ _⟩
 ·obtain rfl:mn=1:=by omega
  have HO:=hO3 rfl;clear hO1 hO2 hO3 m0 m1;go_wp2_with fail;refine wp_region_held_drew (S:=(fun w'=>w'.cell? ⟨w.heap.size+1,2,none⟩=some (.slice av bst.length cv)∧w'.cell? ⟨w.heap.size+1,3,none⟩=some (J Z (ct:Int)))) (by kernel_rfl) ?_ (fun hHeld=>?_)
  ·exact⟨c2,c3⟩
  refine ac 0 rfl ?_;try simp only[Act.put,ah,ai,aj]
  refine ac 1 rfl ?_;try simp only[Act.put,ah,ai,aj]
  refine ac 2 rfl ?_;try simp only[Act.put,ah,ai,aj]
  refine ac 3 rfl ?_;try simp only[Act.put,ah,ai,aj]
  refine ac 4 rfl ?_;try simp only[Act.put,ah,ai,aj]
  refine ac 5 rfl ?_;try simp only[Act.put,ah,ai,aj]
  refine ac 6 rfl ?_;try simp only[Act.put,ah,ai,aj]
  refine ac 7 rfl ?_;try simp only[Act.put,ah,ai,aj]
  refine ac 8 rfl ?_;try simp only[Act.put,ah,ai,aj]
  have R1d:IdO w1.drew w.heap.size (.slice none 0 0) 0 0:=yy R1;have F1d:ig w1.drew w.heap.size:=yy F1;have B1d:Below w.heap.size w w1.drew:=(yy B1).drew;have O1d:=EY (yy O1) (Below.refl w1.heap.size w1).drew;have d2:w1.drew.cell? ⟨w.heap.size+1,2,none⟩=some (.slice av bst.length cv):=c2;have d3:w1.drew.cell? ⟨w.heap.size+1,3,none⟩=some (J Z (ct:Int)):=c3;generalize hV:w1.drew=V at *;clear hV c0 c1 c2 c3 c4 r0 r1 r2 f0 f1 f2;obtain⟨r0,r1,r2⟩:=R1d;have f0:=F1d 0;have f1:=F1d 1;have f2:=F1d 2;refine af 9 rfl fun K hK=>?_;go_simp;refine hK.out _ _ ?_ (fun hHeld1=>?_)
  ·refine⟨?_,?_⟩
   ·rw[World.cell?_setCell_far _ _ _ _ (by show w.heap.size≠w.heap.size+1;omega),World.cell?_setCell_far _ _ _ _ (by show w.heap.size≠w.heap.size+1;omega),World.cell?_setCell_far _ _ _ _ (by show w.heap.size≠w.heap.size+1;omega)];exact d2
   ·rw[World.cell?_setCell_far _ _ _ _ (by show w.heap.size≠w.heap.size+1;omega),World.cell?_setCell_far _ _ _ _ (by show w.heap.size≠w.heap.size+1;omega),World.cell?_setCell_far _ _ _ _ (by show w.heap.size≠w.heap.size+1;omega)];exact d3
  clear hK K hHeld;refine wpAnyH_done (by kernel_rfl) ?_ _;clear hHeld1;go_wp2_with fail;refine bodyPost_ret (v:=.agg #[.slice av bst.length cv,J Z (ct:Int),J Z 0]) (vk _ _ w.heap.size _ (ct:Int) 0 rfl (gp ⟨r0,r1,r2⟩ _ _ _)) rfl ⟨?_,(((B1d.setCell (Nat.le_refl _) _).setCell (Nat.le_refl _) _).setCell (Nat.le_refl _) _)⟩;rw[(yy HO).1,(yy HO).2.1,(yy HO).2.2];exact⟨_,rfl,zi (lz (lz (lz O1d (by omega) _ _) (by omega) _ _) (by omega) _ _) (by omega)⟩
end
section
open Go.Value renaming int → J
open Go.IntKind renaming i64 → Z
open Go.RowKit Go.Sort
def lN(L:List St)(S:List D3):Bool:=bc L&&ba S
def bl(L:List St)(S:List D3):List Int:=if 400<L.length∨400<S.length then [] else if lN L S=true then cj L S else []
def ef(L:List St)(S:List D3):Int:=if 400<L.length∨400<S.length then 0 else if lN L S=true then fh L S else 0
def bD(L:List St)(S:List D3):Int:=if 400<L.length∨400<S.length then 2 else if lN L S=true then bK L S else 1
theorem oA{L:List St}{S:List D3}(h:400<L.length∨400<S.length):bl L S=[]∧ef L S=0∧bD L S=2:=by unfold bl ef bD;rw[if_pos h,if_pos h,if_pos h];exact⟨rfl,rfl,rfl⟩
theorem kL{L:List St}{S:List D3}(h:¬(400<L.length∨400<S.length))(h1:lN L S=false):bl L S=[]∧ef L S=0∧bD L S=1:=by unfold bl ef bD;rw[if_neg h,if_neg h,if_neg h,h1];exact⟨rfl,rfl,rfl⟩
theorem jy{L:List St}{S:List D3}(h:¬(400<L.length∨400<S.length))(h1:lN L S=true):bl L S=cj L S∧ef L S=fh L S∧bD L S=bK L S:=by unfold bl ef bD;rw[if_neg h,if_neg h,if_neg h,if_pos h1,if_pos h1,if_pos h1];exact⟨rfl,rfl,rfl⟩
theorem mx(T:Array Value)(X:World)(b:Nat)(v:Value)(c k:Int)(hT:T.getD 4 undef=.pointer (some ⟨b,0,none⟩))(h:IdO X b v c k):(results Tryz.f35 T).run Tryz.prog X=.ok (.agg #[v,J Z c,J Z k]) X:=by
 obtain⟨h0,h1,h2⟩:=h;simp only[Array.getD_eq_getD_getElem?]at hT;simp[results,Tryz.results35,go_sem,hT,h0,h1,h2]
theorem ly{w':World}{B:Nat}{L:List St}{S:List D3}{k:Int}(h:bl L S=[]∧ef L S=0∧bD L S=k):Cj w' B (bl L S) (ef L S) (bD L S) (.returned (.agg #[.slice none 0 0,J Z 0,J Z k])):=by
 rw[h.1,h.2.1,h.2.2];exact⟨_,rfl,World.ownsRow_nil _ _ _ _⟩
theorem oR(L:List St)(S:List D3)(ar br:Option Addr)(cr dr:Nat)(w:World)(hn:L.length≤1048576)(hm:S.length≤1048576)(hdr:S.length≤dr)(hd9:dr≤9223372036854775807)(hS:aZ w ar L L.length)(hD:dh w br S S.length)(hA:∀y,ar=some y→y.block<w.heap.size)(hB:∀y,br=some y→y.block<w.heap.size):
  Calls Tryz.prog 35 #[.slice ar L.length cr,.slice br S.length dr] w fun e w'=>Cj w' w.heap.size (bl L S) (ef L S) (bD L S) e∧Below w.heap.size w w':=by
 have B0:=an w (.cells #[.slice none 0 0,J Z 0,J Z 0] 83);by_cases hbig:400<L.length∨400<S.length
 ·have HO:=yz (oA hbig);by_cases h4:400<L.length
  ·have h4':(400:Int)<(L.length:Int):=by omega
   go_enter Tryz.func35,Tryz.ntmps35;go_wp2;exact bodyPost_ret (v:=.agg #[.slice none 0 0,J Z 0,J Z 2]) (by simp[results,Tryz.results35,go_sem]) rfl ⟨ly (yy HO),an _ _⟩
  ·have h4':¬(400:Int)<(L.length:Int):=by omega
   have h5':(400:Int)<(S.length:Int):=by omega
   go_enter Tryz.func35,Tryz.ntmps35;go_wp2;exact bodyPost_ret (v:=.agg #[.slice none 0 0,J Z 0,J Z 2]) (by simp[results,Tryz.results35,go_sem]) rfl ⟨ly (yy HO),an _ _⟩
 have h4':¬(400:Int)<(L.length:Int):=by omega
 have h5':¬(400:Int)<(S.length:Int):=by omega
 have R0:IdO (w.alloc (.cells #[.slice none 0 0,J Z 0,J Z 0] 83)) w.heap.size (.slice none 0 0) 0 0:=by refine⟨?_,?_,?_⟩<;>simp
 have F0:ig (w.alloc (.cells #[.slice none 0 0,J Z 0,J Z 0] 83)) w.heap.size:=fun i=>by simp
 have hsz:w.heap.size+1≤(w.alloc (.cells #[.slice none 0 0,J Z 0,J Z 0] 83)).heap.size:=by simp
 have cS:=yz (fun (W:World) h=>jh L ar cr W hn h);have cD:=yz (fun (W:World) h=>iH S br dr W hm h);have HB:=yz B0;have HR:=yz R0;have HF:=yz F0;have HS:=yz (hS.kept B0);have HD:=yz (hD.kept B0);clear B0 R0 F0 hS hD;go_enter Tryz.func35,Tryz.ntmps35;go_wp2_with fail;generalize hW:w.alloc (.cells #[.slice none 0 0,J Z 0,J Z 0] 83)=W at *;clear hW;refine(yy cS _ (yy HS)).mono ?_;rintro e w1 ⟨rfl,hx⟩;have B1:=ax HB hx;have R1:=ap HR hx;have F1:=yz ((yy HF).kept (by omega) hx);have S1:=ap HS hx;have D1:=ap HD hx;have hsz1:w.heap.size+1≤w1.heap.size:=Nat.le_trans hsz hx.size;clear hx HB HR HF HS HD hsz cS;cases hk:bc L
 ·have HO:=yz (kL hbig (by unfold lN;rw[hk];rfl));obtain⟨r0,r1,r2⟩:=yy R1;have f0:=yy F1 0;have f1:=yy F1 1;have f2:=yy F1 2;go_wp2_with fail;clear r0 r1 r2 f0 f1 f2;exact bodyPost_ret (v:=.agg #[.slice none 0 0,J Z 0,J Z 1]) (mx _ _ w.heap.size _ 0 1 rfl (gp (yy R1) _ _ _)) rfl ⟨ly (yy HO),((((yy B1).setCell (Nat.le_refl _) _).setCell (Nat.le_refl _) _).setCell (Nat.le_refl _) _)⟩
 go_wp2_with fail;refine(yy cD _ (yy D1)).mono ?_;rintro e w2 ⟨rfl,hx⟩;have B2:=ax B1 hx;have R2:=ap R1 hx;have F2:=yz ((yy F1).kept (by omega) hx);have S2:=ap S1 hx;have D2:=ap D1 hx;have hsz2:w.heap.size+1≤w2.heap.size:=Nat.le_trans hsz1 hx.size;clear hx B1 R1 F1 S1 D1 hsz1 cD;cases hp:ba S
 ·have HO:=yz (kL hbig (by unfold lN;rw[hp,Bool.and_false]));obtain⟨r0,r1,r2⟩:=yy R2;have f0:=yy F2 0;have f1:=yy F2 1;have f2:=yy F2 2;go_wp2_with fail;clear r0 r1 r2 f0 f1 f2;exact bodyPost_ret (v:=.agg #[.slice none 0 0,J Z 0,J Z 1]) (mx _ _ w.heap.size _ 0 1 rfl (gp (yy R2) _ _ _)) rfl ⟨ly (yy HO),((((yy B2).setCell (Nat.le_refl _) _).setCell (Nat.le_refl _) _).setCell (Nat.le_refl _) _)⟩
 have HO:=yz (jy hbig (by unfold lN;rw[hk,hp];rfl));have cI:=yz (kt L S ar br cr dr w2 hk hp hdr hd9 (yy S2) (yy D2) (fun y e=>by have:=hA y e;omega) (fun y e=>by have:=hB y e;omega));clear hk hp;go_wp2_with fail;refine(yy cI).mono ?_;rintro e w3 ⟨⟨v,rfl,ho⟩,hx⟩;obtain⟨av,cv,rfl⟩:=gu ho;have B3:=ax B2 hx;have R3:=ap R2 hx;have F3:=yz ((yy F2).kept (by omega) hx);have O3:=yz ho;clear hx ho B2 R2 F2 S2 D2 cI;rw[←(yy HO).1]at O3;rw[←(yy HO).1,←(yy HO).2.1,←(yy HO).2.2];obtain⟨r0,r1,r2⟩:=yy R3;have f0:=yy F3 0;have f1:=yy F3 1;have f2:=yy F3 2;go_wp2_with fail;clear r0 r1 r2 f0 f1 f2;refine bodyPost_ret (v:=.agg #[.slice av (bl L S).length cv,J Z (ef L S),J Z (bD L S)]) (mx _ _ w.heap.size _ (ef L S) (bD L S) rfl (gp (yy R3) _ _ _)) rfl ⟨⟨_,rfl,?_⟩,((((yy B3).setCell (Nat.le_refl _) _).setCell (Nat.le_refl _) _).setCell (Nat.le_refl _) _)⟩;exact zi (lz (lz (lz (yy O3) (by omega) _ _) (by omega) _ _) (by omega) _ _) (by omega)
end
section
open Go.RowKit Go.Sort
def stV(s:St):Value:=.agg #[.int .i64 s.1,.int .i64 s.2.1,.int .i64 s.2.2.1,.int .i64 s.2.2.2]
def pu(s:St):DataW Unit:=.agg [.lit (.int .i64 s.1),.lit (.int .i64 s.2.1),.lit (.int .i64 s.2.2.1),.lit (.int .i64 s.2.2.2)]
def rL(v:Value):Option (DataW Unit×List MemPlace):=match v with
 | .agg ⟨[.int .i64 a,.int .i64 b,.int .i64 c,.int .i64 d]⟩=>some (pu (a,b,c,d),[])
 | _=>none
theorem rM(s:St):rL (stV s)=some (pu s,[]):=rfl
theorem tV{v:Value}{s:St}{ps:List MemPlace}(h:rL v=some (pu s,ps)):v=stV s:=by
 unfold rL at h;split at h
 ·simp only[Option.some.injEq,Prod.mk.injEq,pu,DataW.agg.injEq,List.cons.injEq,DataW.lit.injEq,Lit.int.injEq,true_and,and_true]at h;obtain⟨⟨h1,h2,h3,h4⟩,_⟩:=h;subst h1 h2 h3 h4;rfl
 ·cases h
def rW:St:=(0,0,0,0)
def eQ(L:List St)(ids:List Int)(i:Nat):St:=if ids.getD i 0≠0 then (ids.getD i 0,atV L L.length (ids.getD i 0)) else rW
def lQ(D:DataW Unit)(L:List St)(ids:List Int):Prop:=∀i:Nat,i<7→Maps.has D (.int .i64 (i:Int))=decide (ids.getD i 0≠0)∧D.atKey (.int .i64 (i:Int)) (pu rW)=pu (eQ L ids i)
def bN(w:World)(b n:Nat)(L:List St)(ids:List Int):Prop:=∃D,w.ownsMap Tryz.prog 3 rL b n D∧lQ D L ids
theorem Gq(i:Nat)(h:i<7):(Lit.int .i64 (i:Int)).wf=true:=by
 rcases(by omega:i=0∨i=1∨i=2∨i=3∨i=4∨i=5∨i=6) with rfl | rfl | rfl | rfl | rfl | rfl | rfl<;>decide
theorem EN(i:Nat)(h:i<7):keyOf Tryz.prog 3 (.int .i64 (i:Int))=some (.int .i64 (i:Int)):=Maps.keyOf_int_mk Tryz.underlying3 (Gq i h)
theorem ym(w:World):(zeroValue 74).run Tryz.prog w=.ok (stV rW) w:=by kernel_rfl
variable {ids:List Int} {w:World}
theorem bN.look{b n:Nat}{L:List St}(h:bN w b n L ids)(i:Nat)(hi:i<7):(Instr.lookup 209 (.map (some b)) (.int .i64 (i:Int)) false).run Tryz.prog w=.ok (stV (eQ L ids i)) w:=by
 obtain⟨D,hD,hM⟩:=h;obtain⟨v,ps,hr,hv⟩:=hD.lookup (Maps.int_keyed Tryz.underlying3) Tryz.underlying209 (ym w) (rM rW) (EN i hi);rw[(hM i hi).2]at hv;rw[tV hv]at hr;exact hr
theorem bN.lookOk{b n:Nat}{L:List St}(h:bN w b n L ids)(i:Nat)(hi:i<7):(Instr.lookup 209 (.map (some b)) (.int .i64 (i:Int)) true).run Tryz.prog w=.ok (.tuple #[stV (eQ L ids i),.bool (decide (ids.getD i 0≠0))]) w:=by
 obtain⟨D,hD,hM⟩:=h;obtain⟨v,ps,hr,hv⟩:=hD.look_ok (Maps.int_keyed Tryz.underlying3) Tryz.underlying209 (ym w) (rM rW) (EN i hi);rw[(hM i hi).2]at hv;rw[tV hv,(hM i hi).1]at hr;exact hr
theorem bN.kept{w':World}{b n:Nat}{L:List St}{row:Option Nat}(h:bN w b n L ids)(hg:w.grownBy w' row)(hne:some b≠row):bN w' b n L ids:=by
 obtain⟨D,hD,hM⟩:=h;exact⟨D,hD.kept hg hne,hM⟩
end
section
open Go.Value renaming int → J
open Go.IntKind renaming i64 → Z
open Go.RowKit Go.Sort
theorem ET(L:List St)(ids:List Int)(i:Nat):(eQ L ids i).1=ids.getD i 0:=by
 unfold eQ;split
 ·rfl
 ·rename_i h
  have h0:ids.getD i 0=0:=by simpa using h
  rw[h0];rfl
variable {w w':World}
theorem bN.below{b n:Nat}{L:List St}{ids:List Int}(h:bN w b n L ids)(hB:Below w.heap.size w w'):bN w' b n L ids:=h.kept (row:=none) ⟨hB.os,hB.tape,hB.output,hB.size,fun k hk _=>hB.block k hk⟩ (by simp)
def qi(w:World)(b:Nat)(v0 v1 v2:Value):Prop:=w.cell? ⟨b,0,none⟩=some v0∧w.cell? ⟨b,1,none⟩=some v1∧w.cell? ⟨b,2,none⟩=some v2
theorem qi.kept{b:Nat}{v0 v1 v2:Value}(h:qi w b v0 v1 v2)(hB:Below w.heap.size w w'):qi w' b v0 v1 v2:=⟨bC h.1 hB,bC h.2.1 hB,bC h.2.2 hB⟩
theorem EH(L:List St)(ids:List Int)(m:Nat)(ar br:Option Addr)(nl cr dr b N:Nat)(w:World)(hm:m≤6)(hN:bN w b N L ids):
  Calls Tryz.prog 180 #[.agg #[.slice ar nl cr,.slice br m dr,.map (some b)]] w fun e w'=>e=.returned (.slice (some ⟨w.heap.size+1,0,none⟩) m m)∧dz w' 2 (w.heap.size+1) (m*1) (rg ids)∧Below w.heap.size w w':=by
 have B0:=an w (.cells #[.slice ar nl cr,.slice br m dr,.map (some b)] 211);have C0:qi (w.alloc (.cells #[.slice ar nl cr,.slice br m dr,.map (some b)] 211)) w.heap.size (.slice ar nl cr) (.slice br m dr) (.map (some b)):=by refine⟨?_,?_,?_⟩<;>simp
 have HN:=yz (hN.below B0);have HC:=yz C0;have HB:=yz B0;have hsz:(w.alloc (.cells #[.slice ar nl cr,.slice br m dr,.map (some b)] 211)).heap.size=w.heap.size+1:=by simp
 clear B0 C0 hN;obtain⟨i0,hi,hz0,hz1,hz2⟩:=info_parts kN;go_enter Tryz.func180,Tryz.ntmps180;go_wp2_with (at_make;refine wpList_make_full _ rfl _ _ 81 rfl (w.heap.size+1) 2 i0 (J Z 0) 1 Tryz.underlying81 hi hz0 hz1 .i64 .i64 _ _ m rfl rfl rfl rfl (by rw[hz2];omega) (by unfold maxLen;omega) (by simp) ?_;intro w0 hown0 hgrow0)
 have hzero:∀j,j<m*1→(madeCells (Value.int .i64 0).cells (m*1)).toList[j]? = some (J Z 0):=by
  intro j hj;have e:(Value.int .i64 0).cells = #[J Z 0]:=rfl;rw[e,toList_madeCells_one];simp at hj;simp[hj]
 have H0:Hid (dz w0 2 (w.heap.size+1) (m*1) (fun j=>if j<0 then rg ids j else J Z 0)):=yz (by
  have h:=dz.made (v:=.nilIface) hown0 hzero;rw[hsz]at h
  exact h.congr (fun j hj=>by rw[if_neg (by omega)]))
 have hb0:=jQ hgrow0;have HB0:=ax HB hb0;have HN0:=yz ((yy HN).below hb0);have HC0:=ap HC hb0;clear hown0 hgrow0 hzero hb0 HB HN HC hsz;go_loopw [11] (fun i wr=>∃k:Nat,k≤m∧i=J Z k∧Hid (dz wr 2 (w.heap.size+1) (m*1) (fun j=>if j<k then rg ids j else J Z 0))∧Hid (Below w.heap.size w wr)∧Hid (bN wr b N L ids)∧Hid (qi wr w.heap.size (.slice ar nl cr) (.slice br m dr) (.map (some b)))) (fun i _=>m-(intOf i).toNat)
 case atStart=>exact⟨0,by omega,rfl,H0,HB0,HN0,HC0⟩
 case round=>
  clear H0 HB0 HN0 HC0;obtain⟨k,hk,rfl,HO,HB,HN,HC⟩:=hrel;by_cases hkn:k<m
  ·have hr:=(yy HN).look k (by omega);have HID:Hid (rg ids k=J Z (eQ L ids k).1):=yz (by rw[ET];rfl);generalize eQ L ids k=q at *;obtain⟨q1,q2,q3,q4⟩:=q;unfold stV at hr;dsimp only at hr HID;have hkn2:(k:Int)<(m:Int):=by omega
   have hfld:∀W:World,(Instr.field 74 (.agg #[J Z q1,J Z q2,J Z q3,J Z q4]) 0).run Tryz.prog W=.ok (J Z q1) W:=fun W=>by kernel_rfl
   have e0:=(yy HO).cell (j:=k) (by omega);have f0:=(yy HO).free k;rw[if_neg (by omega)]at e0
   have hbN:b≠w.heap.size+1:=fun e=>by
    obtain⟨D,⟨es,cl,hh,_⟩,_⟩:=yy HN;obtain⟨cur,hc,_⟩:=yy HO;rw[e,hc]at hh;cases hh
   have HO3:Hid (dz (wr.setCell ⟨w.heap.size+1,k,none⟩ (J Z q1)) 2 (w.heap.size+1) (m*1) (fun j=>if j<k+1 then rg ids j else J Z 0)):=yz (((yy HO).set k (J Z q1)).congr (fun j hj=>by
    by_cases h:j=k
    ·rw[if_pos h,if_pos (by omega),h,yy HID]
    ·rw[if_neg h];by_cases h2:j<k
     ·rw[if_pos h2,if_pos (by omega)]
     ·rw[if_neg h2,if_neg (by omega)]))
   have HB3:=yz ((yy HB).setCell (show w.heap.size≤w.heap.size+1 by omega) (J Z q1):Below w.heap.size w (wr.setCell ⟨w.heap.size+1,k,none⟩ (J Z q1)));have HN3:Hid (bN (wr.setCell ⟨w.heap.size+1,k,none⟩ (J Z q1)) b N L ids):=yz ((yy HN).kept (row:=some (w.heap.size+1)) (kJ (ix wr _) k (J Z q1)) (fun e=>hbN (Option.some.inj e)));obtain⟨c0,c1,c2⟩:=yy HC
   have HC3:Hid (qi (wr.setCell ⟨w.heap.size+1,k,none⟩ (J Z q1)) w.heap.size (.slice ar nl cr) (.slice br m dr) (.map (some b))):=yz (by
    have hne:some w.heap.size≠some (w.heap.size+1):=fun e=>by have:=Option.some.inj e;omega
    exact⟨eD c0 (kJ (ix wr _) k (J Z q1)) hne,eD c1 (kJ (ix wr _) k (J Z q1)) hne,eD c2 (kJ (ix wr _) k (J Z q1)) hne⟩)
   clear HO HB HN HC hbN;go_wp2_with fail;go_roundw
   case rel=>first | exact⟨k+1,by omega,by go_num,HO3,HB3,HN3,HC3⟩ | trace_state
   case measure=>simp[intOf];omega
  ·have hkn':k=m:=by omega
   subst hkn';go_wp2_with fail;go_ret;exact⟨rfl,(yy HO).congr (fun j hj=>if_pos (by omega)),yy HB⟩
end
section
open Go.Value renaming int → J
open Go.IntKind renaming i64 → Y
open Go.RowKit Go.Sort
theorem AE(L:List St)(S:List D3)(ids:List Int)(n:Nat)(ar br:Option Addr)(nl cr dr b N:Nat)(w:World)(hm:S.length≤6)(hn:n≤S.length)(hD:dh w br S S.length)(hN:bN w b N L ids):
  Calls Tryz.prog 181 #[.agg #[.slice ar nl cr,.slice br S.length dr,.map (some b)],J Y (n:Int)] w fun e w'=>(∃v,e=.returned v∧w'.ownsRow (w.heap.size+1) 238 7 v (az L S ids n).length (dp (az L S ids n)))∧Below w.heap.size w w':=by
 obtain⟨i0,hinf,hz0,hz1,hz2⟩:=info_parts qP;have hm8:1000≤maxLen:=by decide +kernel
 have B0:=an w (.cells #[.slice ar nl cr,.slice br S.length dr,.map (some b)] 211);have C0:qi (w.alloc (.cells #[.slice ar nl cr,.slice br S.length dr,.map (some b)] 211)) w.heap.size (.slice ar nl cr) (.slice br S.length dr) (.map (some b)):=by refine⟨?_,?_,?_⟩<;>simp
 have HSn:=yz (gh L S ids);have HLE:=yz (iG L S ids);have HSO:Hid (∀i,bW L S ids i=(vA S i,(ids.getD i 0,atV L L.length (ids.getD i 0)))):=yz (fun i=>rfl);have HNS:Hid (∀i,ids.getD i 0≠0→eQ L ids i=(ids.getD i 0,atV L L.length (ids.getD i 0))):=yz (fun i h=>by unfold eQ;rw[if_pos h]);have HNZ:Hid (∀i,ids.getD i 0=0→eQ L ids i=(0,0,0,0)):=yz (fun i h=>by unfold eQ;rw[if_neg (by simpa using h)];rfl);have HD:=yz (hD.kept B0);have HN0:=yz (hN.below B0);have HC0:=yz C0;have HB0:=yz B0;have hsz:(w.alloc (.cells #[.slice ar nl cr,.slice br S.length dr,.map (some b)] 211)).heap.size=w.heap.size+1:=by simp
 clear B0 C0 hD hN;generalize hme:S.length=m at *;go_enter Tryz.func181,Tryz.ntmps181;go_wp2_with fail;generalize hW:w.alloc (.cells #[.slice ar nl cr,.slice br m dr,.map (some b)] 211)=W at *;clear hW;go_loopw [5,10] (fun v kk wr=>∃i:Nat,i≤n∧kk=J Y i∧Hid (wr.ownsRow (w.heap.size+1) 238 7 v (az L S ids i).length (dp (az L S ids i)))∧Hid (Below W.heap.size W wr)) (fun _ kk _=>n-(intOf kk).toNat)
 case atStart=>exact⟨0,by omega,rfl,yz (World.ownsRow_nil _ _ _ _),yz (Below.refl _ _)⟩
 case round=>
  obtain⟨i,hi,rfl,HO,HB⟩:=hrel;by_cases hin:i<n
  ·have hin2:(i:Int)<(n:Int):=by omega
   have hr:=((yy HN0).below (yy HB)).lookOk i (by omega);obtain⟨c0,c1,c2⟩:=(yy HC0).kept (yy HB);have HSN:=yz (yy HSn i);have HSI:=yz (yy HSO i);have hns:=yy HNS i;have hnz:=yy HNZ i;have hle:=yy HLE i;generalize ids.getD i 0=id at *;by_cases hid:id=0
   ·subst hid;rw[hnz rfl]at hr;unfold stV at hr;simp only[ne_eq,not_true_eq_false,decide_false]at hr;rw[if_neg (by simp),List.append_nil]at HSN;have Z:=an wr (.cells #[J Y 0,J Y 0,J Y 0,J Y 0] 74);have HO3:Hid ((wr.alloc (.cells #[J Y 0,J Y 0,J Y 0,J Y 0] 74)).ownsRow (w.heap.size+1) 238 7 u5 (az L S ids (i+1)).length (dp (az L S ids (i+1)))):=yz (by rw[yy HSN];exact je (yy HO) Z);have HB3:=ax HB Z;clear Z HO HB hns hnz;go_wp2_with fail;go_roundw
    case rel=>first | exact⟨i+1,by omega,by go_num,HO3,HB3⟩ | trace_state
    case measure=>simp[intOf]<;>omega
   ·have hid':decide (id≠0)=true:=by simp[hid]
    rw[hns hid,hid']at hr;rw[if_pos hid,yy HSI]at HSN;clear HSI hns hnz;generalize atV L L.length id=q at *;obtain⟨q1,q2,q3⟩:=q;unfold stV at hr;dsimp only at hr;have HU:Hid (∀z,u5.ownBlock=some z→w.heap.size+1≤z∧z<wr.heap.size):=yz (fun z e=>(yy HO).lt z e);have Z:=an wr (.cells #[J Y id,J Y q1,J Y q2,J Y q3] 74);have HO2:=yz (je (yy HO) Z);have HB2:=ax HB Z;have N2:=yz (fW wr (id,q1,q2,q3) 74);clear Z HO HB;go_wp2_with fail;clear c0 c1 c2 hr;generalize wr.alloc (.cells #[J Y id,J Y q1,J Y q2,J Y q3] 74)=W2 at HO2 HB2 N2 ⊢;generalize wr.heap.size=tb at *;rcases yy HD with h | ⟨bb,bo,rfl,hbb,hbc⟩
    ·omega
    have hst:=(hbc i (by omega)).kept hbb (yy HB2);obtain⟨_,x1,_⟩:=(yy HC0).kept (yy HB2);clear hbc;generalize vA S i=sv at *;obtain⟨v1,v2,v3⟩:=sv;obtain⟨c0,c1,c2⟩:=hst;obtain⟨d0,d1,d2,d3⟩:=yy N2;simp only[Nat.zero_add]at d0 d1 d2 d3;simp only at c0 c1 c2;have him:(i:Int)<(m:Int):=by omega
    refine wp_region_held_drew (S:=(fun w'=>w'.cell? ⟨w.heap.size,1,none⟩=some (.slice (some ⟨bb,bo,none⟩) m dr)∧(w'.cell? ⟨bb,bo+i*3,none⟩=some (J Y v1)∧w'.cell? ⟨bb,bo+i*3+1,none⟩=some (J Y v2)∧w'.cell? ⟨bb,bo+i*3+2,none⟩=some (J Y v3))∧w'.cell? ⟨tb,0,none⟩=some (J Y id)∧w'.cell? ⟨tb,1,none⟩=some (J Y q1)∧w'.cell? ⟨tb,2,none⟩=some (J Y q2)∧w'.cell? ⟨tb,3,none⟩=some (J Y q3))) (by kernel_rfl) ?_ (fun hHeld=>?_)
    ·exact⟨x1,⟨c0,c1,c2⟩,d0,d1,d2,d3⟩
    refine ac 0 rfl ?_;try simp only[Act.put,ah,ai,aj]
    refine ac 1 rfl ?_;try simp only[Act.put,ah,ai,aj]
    refine ac 2 rfl ?_;try simp only[Act.put,ah,ai,aj]
    refine ac 3 rfl ?_;try simp only[Act.put,ah,ai,aj]
    refine ac 4 rfl ?_;try simp only[Act.put,ah,ai,aj]
    refine ac 5 rfl ?_;try simp only[Act.put,ah,ai,aj]
    refine ac 6 rfl ?_;try simp only[Act.put,ah,ai,aj]
    refine ac 7 rfl ?_;try simp only[Act.put,ah,ai,aj]
    have HK:Hid (∀W':World,Below W2.heap.size W2 W'→(W'.cell? ⟨w.heap.size,1,none⟩=some (.slice (some ⟨bb,bo,none⟩) m dr)∧(W'.cell? ⟨bb,bo+i*3,none⟩=some (J Y v1)∧W'.cell? ⟨bb,bo+i*3+1,none⟩=some (J Y v2)∧W'.cell? ⟨bb,bo+i*3+2,none⟩=some (J Y v3))∧W'.cell? ⟨tb,0,none⟩=some (J Y id)∧W'.cell? ⟨tb,1,none⟩=some (J Y q1)∧W'.cell? ⟨tb,2,none⟩=some (J Y q2)∧W'.cell? ⟨tb,3,none⟩=some (J Y q3))):=yz (fun W' h=>⟨bC x1 h,⟨bC c0 h,bC c1 h,bC c2 h⟩,bC d0 h,bC d1 h,bC d2 h,bC d3 h⟩);have HOd:Hid (W2.drew.ownsRow (w.heap.size+1) 238 7 u5 (az L S ids i).length (dp (az L S ids i))):=HO2;have HBd:=yz ((Below.refl W2.heap.size W2).drew);clear c0 c1 c2 d0 d1 d2 d3 x1 N2;refine af 8 rfl fun K hK=>?_;go_simp;have Z5:=an W2.drew (.cells #[J Y v1,J Y v2,J Y v3,J Y id,J Y q1,J Y q2,J Y q3] 238);have hown:=je (yy HOd) Z5;have HB5:=ax HBd Z5;have hszd:W2.drew.heap.size=W2.heap.size:=rfl;have hbW:W.heap.size≤W2.heap.size:=(yy HB2).size;clear Z5 HOd HBd;refine hK.out _ _ (yy HK _ (yy HB5)) (fun hHeld3=>?_);clear hK K hHeld;refine af 9 rfl fun K hK=>?_;refine nS rfl _ _ 235 rfl (w.heap.size+1) 238 i0 (.agg #[J Y 0,J Y 0,J Y 0,J Y 0,J Y 0,J Y 0,J Y 0]) 7 56 Tryz.underlying235 hinf hz0 hz1 hz2 rfl (by decide) _ _ _ rfl hown ⟨W2.drew.heap.size,0,none⟩ 1 1 (dp [((v1,v2,v3),(id,q1,q2,q3))]) rfl rfl ?d2 (fun u hu=>oY hu) ?d3 ?d4 ?d5 ?_
    case d2=>first | exact fun j u h=>h | exact jz _ _ _
    case d3=>omega
    case d4=>omega
    case d5=>first | omega | (simp;omega)
    intro v7 V7 hown7 hgrow7;have neb:∀z,z<w.heap.size+1∨tb≤z→some z≠u5.ownBlock:=fun z hz e=>by have:=yy HU z e.symm;omega
    have HB8:Hid (Below W.heap.size W V7):=yz ((ak (yy HB2) (yy HB5)).trans ⟨hgrow7.os,hgrow7.tape,hgrow7.output,hgrow7.size,fun z hz=>hgrow7.block z (by simp;omega) (neb z (.inl (by omega)))⟩);have HO8:Hid (V7.ownsRow (w.heap.size+1) 238 7 v7 (az L S ids (i+1)).length (dp (az L S ids (i+1)))):=yz (by rw[yy HSN,qB,List.length_append];exact hown7);obtain⟨k1,⟨k2,k3,k4⟩,k5,k6,k7,k8⟩:=yy HK _ (yy HB5);have hbb2:bb<w.heap.size+1:=by omega
    have k1':=cq k1 hgrow7 (neb _ (.inl (show w.heap.size<w.heap.size+1 by omega)));have k2':=cq k2 hgrow7 (neb _ (.inl hbb2));have k3':=cq k3 hgrow7 (neb _ (.inl hbb2));have k4':=cq k4 hgrow7 (neb _ (.inl hbb2));have k5':=cq k5 hgrow7 (neb _ (.inr (Nat.le_refl _)));have k6':=cq k6 hgrow7 (neb _ (.inr (Nat.le_refl _)));have k7':=cq k7 hgrow7 (neb _ (.inr (Nat.le_refl _)));have k8':=cq k8 hgrow7 (neb _ (.inr (Nat.le_refl _)));clear hown7 hgrow7 hown k1 k2 k3 k4 k5 k6 k7 k8 neb HB5 HB2 HO2;refine hK.out _ _ ⟨k1',⟨k2',k3',k4'⟩,k5',k6',k7',k8'⟩ (fun hHeld4=>?_);clear hK K hHeld3;refine af 10 rfl fun K hK=>?_;go_simp;refine hK.out _ _ ⟨k1',⟨k2',k3',k4'⟩,k5',k6',k7',k8'⟩ (fun hHeld5=>?_);clear hK K hHeld4;refine wpAnyH_done (by kernel_rfl) ?_ _;clear k1' k2' k3' k4' k5' k6' k7' k8' hHeld5 HK;go_wp2_with fail;go_roundw
    case rel=>first | exact⟨i+1,by omega,by go_num,HO8,HB8⟩ | trace_state
    case measure=>simp[intOf]<;>omega
  ·have hin':i=n:=by omega
   subst hin';go_wp2_with fail;go_ret;exact⟨⟨_,rfl,yy HO⟩,ak (yy HB0) (yy HB)⟩
end
section
open Go.RowKit Go.Sort
theorem sV(ids:List Int){i:Nat}(hi:i<ids.length):aY (ids.take (i+1))=aY (ids.take i)+if ids.getD i 0≠0 then 1 else 0:=by
 rw[List.take_succ_eq_append_getElem hi,ju];have e:ids.getD i 0=ids[i]:=by rw[List.getD_eq_getElem?_getD,List.getElem?_eq_getElem hi];rfl
 rw[e]
theorem gl(ids:List Int)(a:Option Addr)(c:Nat)(w:World)(hk:ids.length≤1048576)(hI:hU w a ids ids.length):
  Calls Tryz.prog 144 #[.slice a ids.length c] w fun e w'=>e=.returned (.int .i64 (aY ids:Int))∧w'=w:=by
 have HT:Hid (aY (ids.take ids.length)=aY ids):=yz (by rw[List.take_length]);rcases hI with h0 | ⟨b,o,rfl,hb,hc⟩
 ·have e:ids=[]:=List.eq_nil_of_length_eq_zero h0;subst e;go_enter Tryz.func144,Tryz.ntmps144;go_wp2_with fail;refine wp_loop_rounds 1 ?_;rw[rounds_succ];go_wp2_with fail;go_ret;exact⟨rfl,rfl⟩
 have HC:=yz hc;clear hc;go_enter Tryz.func144,Tryz.ntmps144;go_wp2_with fail;go_loop [3,8] (fun q i=>∃k:Nat,k≤ids.length∧i=.int .i64 k∧q=.int .i64 (aY (ids.take k):Int)) (fun _ i=>ids.length-(intOf i).toNat)
 case atStart=>exact⟨0,Nat.zero_le _,rfl,rfl⟩
 case round=>
  obtain⟨k,hkl,rfl,rfl⟩:=hrel;by_cases hkn:k<ids.length
  ·have c0:=yy HC k hkn;have HS:=yz (sV ids hkn);have hle:=lh (ids.take k);rw[List.length_take]at hle;have hle2:(aY (ids.take k):Int)≤1048576:=by omega
   have hkn2:(k:Int)<(ids.length:Int):=by omega
   generalize ids.getD k 0=z at *;by_cases hz:z=0
   ·have HS2:Hid (aY (ids.take (k+1))=aY (ids.take k)):=yz (by rw[yy HS,if_neg (by simpa using hz)];rfl);subst hz;go_wp2_with fail;go_round
    case rel=>exact⟨k+1,by omega,by go_num,by rw[yy HS2]⟩
    case measure=>simp[intOf];omega
   ·have HS2:Hid (aY (ids.take (k+1))=aY (ids.take k)+1):=yz (by rw[yy HS,if_pos hz]);go_wp2_with fail;go_round
    case rel=>exact⟨k+1,by omega,by go_num,by rw[yy HS2];go_num⟩
    case measure=>simp[intOf];omega
  ·obtain rfl:k=ids.length:=by omega
   go_wp2_with fail;go_ret;exact⟨rfl,rfl⟩
def dL(L:List St)(S:List D3):List Int×Nat:=(eN (dB L S) (L.map (·.1)) S.length []).foldl dE ([],0)
theorem mh(L:List St)(S:List D3):cj L S=(if (dL L S).2=1 then (dL L S).1 else [])∧fh L S=(if (dL L S).2=1 then (aY (dL L S).1:Int) else 0)∧bK L S=(if (dL L S).2=0 then 6 else if 1<(dL L S).2 then 11 else 0):=by
 have h:=BP (dB L S) (L.map (·.1)) S.length;unfold cj fh bK;change sP (idR L S) (dL L S) at h;rcases h with ⟨h1,h2,h3⟩ | ⟨h1,h2,h3,h4,h5⟩
 ·rw[h1,h3];exact⟨rfl,rfl,rfl⟩
 ·rw[h4];refine⟨?_,?_,rfl⟩
  ·split
   ·rename_i e;exact h5 e
   ·rfl
  ·split
   ·rw[h3]
   ·rfl
end
section
open Go.RowKit Go.Sort Go.Shelf
attribute [local go_sem] Oper.semAt_some
abbrev Nam:=List Int×Nat
def FZ(x:Nam):Value:=.slice (some ⟨x.2,0,none⟩) x.1.length x.1.length
def FY(x:Nam)(w:World):Prop:=dz w 2 x.2 (x.1.length*1) (rg x.1)
structure KpX (p q:Nat) (W W':World):Prop where
 size:W.heap.size≤W'.heap.size
 os:W'.os=W.os
 tape:W'.tape=W.tape
 output:W'.output=W.output
 same:∀k o,W.heap[k]? = some o→(o.isCells=true∨o.isWalk=true)→k≠p→k≠q→W'.heap[k]? = some o
variable {p q:Nat}
theorem KpX.trans{A B C:World}(h:KpX p q A B)(k:KpX p q B C):KpX p q A C:=⟨Nat.le_trans h.size k.size,k.os.trans h.os,k.tape.trans h.tape,k.output.trans h.output,fun i o hi ho h1 h2=>k.same i o (h.same i o hi ho h1 h2) ho h1 h2⟩
theorem KpX.of_below{A B:World}(h:Below A.heap.size A B):KpX p q A B:=⟨h.size,h.os,h.tape,h.output,fun i o hi _ _ _=>by rw[h.block i (Array.getElem?_eq_some_iff.1 hi).1];exact hi⟩
def pN(l p q:Nat)(J:List (List Int)→World→Prop):Prop:=∀m pre (x:Nam) W,J pre W→(∃W0,J pre W0∧W0.heap.size≤x.2)→FY x W→x.1.length≤6→YieldAt Fence.wide m Tryz.prog l #[FZ x] W fun e W'=>e=.returned (.bool true)∧J (pre ++ [x.1]) W'∧KpX p q W W'
theorem AZ(L:List St)(S:List D3)(ids:List Int)(ar br:Option Addr)(cr dr b N l p q n:Nat)(J:List (List Int)→World→Prop)(pre:List (List Int))(w:World)(hm:S.length≤6)(hl:ids.length=S.length)(hN:bN w b N L ids)
  (hJ:J pre w) (hJa:∀W W',J pre W→Below W.heap.size W W'→J pre W') (hY:pN l p q J) :
  CallsIn Fence.wide n Tryz.prog 165 #[.agg #[.slice ar L.length cr,.slice br S.length dr,.map (some b)],.int .i64 (ids.length:Int),.func (.yield l) #[] #[]] w fun e W'=>e=.returned (.bool true)∧J (pre ++ [ids]) W'∧KpX p q w W':=by
 have B0:=an w (.cells #[.slice ar L.length cr,.slice br S.length dr,.map (some b)] 211);have HB:=yz B0;have HJ:=yz (hJa _ _ hJ B0);have cI:=yz (fun (k:Nat)=>callsIn_wide (n:=k) |>.2 (EH L ids S.length ar br L.length cr dr b N _ hm (hN.below B0)));have HY:=yz hY;have HJa:=yz hJa;clear B0 hN hJ hY hJa;rw[hl];refine callsIn_of_wp Tryz.func165 rfl trivial ?_ rfl;simp only[Tryz.ntmps165,List.size_toArray,List.length_cons,List.length_nil,Nat.reduceAdd,Nat.reduceSub,Array.replicate_succ,Array.replicate_zero,List.push_toArray,List.append_toArray,List.nil_append,List.cons_append];gi_wp2
 refine⟨trivial,fun h=>(by cases h),?_⟩;refine(yy cI _).mono ?_;rintro e w1 ⟨rfl,hrow,hx⟩;have hsz:(w.alloc (.cells #[.slice ar L.length cr,.slice br S.length dr,.map (some b)] 211)).heap.size=w.heap.size+1:=by simp
 rw[hsz]at hrow ⊢;have HY1:=yy HY (n-1) pre (ids,w.heap.size+1+1) w1 (yy HJa _ _ (yy HJ) hx) ⟨_,yy HJ,by simp⟩ (by unfold FY;dsimp only;rw[hl];exact hrow) (by dsimp only;omega);unfold FZ at HY1;dsimp only at HY1;rw[hl]at HY1;have HK:=yz (KpX.of_below (p:=p) (q:=q) (ak (yy HB) hx));clear hrow hx hsz cI HY HJa HJ HB;obtain⟨fn,tmps,assign,body,hy,hR⟩:=HY1;gi_wp2
 refine⟨fun h=>(by cases h),?_⟩;refine hR.mono ?_;rintro e w2 ⟨rfl,hJ2,hk2⟩;have HJ2:=yz hJ2;have HK2:=yz ((yy HK).trans hk2);clear hJ2 hk2 hR hy HK;gi_wp2
 go_ret;exact⟨rfl,yy HJ2,yy HK2⟩
end
section
open Go.RowKit Go.Sort
theorem uH{i j:Nat}(h:i≠j):(Lit.int .i64 (i:Int))≠Lit.int .i64 (j:Int):=fun e=>h (by injection e with _ e;omega)
theorem jU(ids:List Int)(a:Int){i:Nat}(h:i<ids.length):(ids ++ [a]).getD i 0=ids.getD i 0:=by rw[List.getD_eq_getElem?_getD,List.getD_eq_getElem?_getD,List.getElem?_append_left h]
theorem nh(ids:List Int)(a:Int):(ids ++ [a]).getD ids.length 0=a:=by rw[List.getD_eq_getElem?_getD,List.getElem?_append_right (Nat.le_refl _),Nat.sub_self];rfl
theorem jT(ids:List Int)(a:Int){i:Nat}(h:ids.length<i):(ids ++ [a]).getD i 0=0:=by
 rw[List.getD_eq_getElem?_getD,List.getElem?_append_right (by omega),List.getElem?_eq_none (by simp;omega)];rfl
theorem kI(ids:List Int){i:Nat}(h:ids.length≤i):ids.getD i 0=0:=by rw[List.getD_eq_getElem?_getD,List.getElem?_eq_none h];rfl
theorem qJ(ids:List Int)(i:Nat):(ids ++ [(0:Int)]).getD i 0=ids.getD i 0:=by
 rcases Nat.lt_trichotomy i ids.length with h | h | h
 ·exact jU ids 0 h
 ·rw[h,nh,kI ids (Nat.le_refl _)]
 ·rw[jT ids 0 h,kI ids (by omega)]
variable {ids:List Int}
theorem lQ.snoc0{D:DataW Unit}{L:List St}(h:lQ D L ids):lQ D L (ids ++ [0]):=fun i hi=>by
 have h1:=h i hi;unfold eQ at h1 ⊢;rw[qJ];exact h1
theorem lQ.put{D:DataW Unit}{L:List St}{a:Int}(h:lQ D L ids)(hm:Maps.IsMap D)(ha:a≠0):lQ (D.put (.int .i64 (ids.length:Int)) (pu (a,atV L L.length a))) L (ids ++ [a]):=fun i hi=>by
 by_cases e:i=ids.length
 ·subst e;rw[Maps.has_put_same hm (by trivial),Maps.atKey_put_same hm (by trivial)];unfold eQ;rw[nh,if_pos ha];exact⟨by simp[ha],rfl⟩
 ·rw[Maps.has_put_other (uH e),Maps.atKey_put_other (uH e)];have h1:=h i hi;unfold eQ at h1 ⊢
  have e2:(ids ++ [a]).getD i 0=ids.getD i 0:=by
   rcases Nat.lt_or_gt_of_ne e with h2 | h2
   ·exact jU ids a h2
   ·rw[jT ids a h2,kI ids (by omega)]
  rw[e2];exact h1
theorem lQ.del{D:DataW Unit}{L:List St}{a:Int}(h:lQ D L (ids ++ [a])):lQ (D.del (.int .i64 (ids.length:Int))) L ids:=fun i hi=>by
 by_cases e:i=ids.length
 ·subst e;rw[Maps.has_del_same,Maps.atKey_del_same];unfold eQ;rw[kI ids (Nat.le_refl _),if_neg (by simp)];exact⟨by simp,rfl⟩
 ·rw[Maps.has_del_other (uH e),Maps.atKey_del_other (uH e)];have h1:=h i hi;unfold eQ at h1 ⊢
  have e2:(ids ++ [a]).getD i 0=ids.getD i 0:=by
   rcases Nat.lt_or_gt_of_ne e with h2 | h2
   ·exact jU ids a h2
   ·rw[jT ids a h2,kI ids (by omega)]
  rw[e2]at h1;exact h1
def iE(F:List Int→Int→Bool)(A:List Int)(r:Nat)(ids:List Int)(i:Nat):List (List Int):=((A.take i).filter (F ids)).flatMap (fun a=>eN F A r (ids ++ [a]))
theorem zl(F:List Int→Int→Bool)(A:List Int)(r:Nat)(ids:List Int):iE F A r ids 0=[]:=rfl
theorem rl(F:List Int→Int→Bool)(A:List Int)(r:Nat)(ids:List Int){i:Nat}(hi:i<A.length):iE F A r ids (i+1)=iE F A r ids i ++ if F ids (A.getD i 0)=true then eN F A r (ids ++ [A.getD i 0]) else []:=by
 unfold iE;rw[List.take_succ_eq_append_getElem hi,List.filter_append,List.flatMap_append];have e:A.getD i 0=A[i]:=by rw[List.getD_eq_getElem?_getD,List.getElem?_eq_getElem hi];rfl
 rw[e];congr 1
 cases h:F ids A[i]<;>simp[h]
theorem AF(F:List Int→Int→Bool)(A:List Int)(r:Nat)(ids:List Int):eN F A (r+1) ids=iE F A r ids A.length ++ eN F A r (ids ++ [0]):=by
 unfold iE;rw[List.take_length];rfl
theorem CK(L:List St)(S:List D3)(ids:List Int)(a:Int):dB L S ids a=eH (az L S ids ids.length) (vA S ids.length,(a,atV L L.length a)) (az L S ids ids.length).length:=uw L S ids _ ids.length
end
end Go.Proofs.YtdchjcadhlkpfaaGreatDoor
