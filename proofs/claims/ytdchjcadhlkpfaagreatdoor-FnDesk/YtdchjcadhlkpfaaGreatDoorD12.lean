/- Several texts in one: NaC, NaD, NaE, IeA, IeB, IeC. -/
import Derived.Test.YtdchjcadhlkpfaaGreatDoorD11
namespace Go.Proofs.YtdchjcadhlkpfaaGreatDoor
set_option linter.unusedVariables false
set_option linter.unusedSimpArgs false
set_option maxRecDepth 100000
set_option maxHeartbeats 8000000
section
open Go.Value renaming int → J
open Go.IntKind renaming i64 → Y
open Go.RowKit Go.Sort
variable {ids:List Int}
theorem Br{L:List St}{S:List D3}(h:bc L=false):bL L S ids=false:=by unfold bL;rw[h];rfl
theorem Bs{L:List St}{S:List D3}(h:ba S=false):bL L S ids=false:=by unfold bL;rw[h,Bool.and_false];rfl
theorem Bt{L:List St}{S:List D3}(h:ids.length≠S.length):bL L S ids=false:=by unfold bL;rw[decide_eq_false h,Bool.and_false];rfl
theorem Bu{L:List St}{S:List D3}(h1:bc L=true)(h2:ba S=true)(h3:ids.length=S.length):bL L S ids=eW (az L S ids ids.length) (az L S ids ids.length).length:=by unfold bL;rw[h1,h2,decide_eq_true h3];rfl
theorem yq{A:List Sg}{n:Nat}(h:∀i,i<n→(!iN (sgA A i).2.2&&eH A (sgA A i) i)=true):eW A n=true:=by
 unfold eW;rw[List.all_eq_true];exact fun i hi=>h i (List.mem_range.1 hi)
theorem sQ{A:List Sg}{n i:Nat}(hi:i<n)(h:(!iN (sgA A i).2.2&&eH A (sgA A i) i)=false):eW A n=false:=by
 unfold eW;rw[List.all_eq_false];exact⟨i,List.mem_range.2 hi,by rw[h];simp⟩
theorem rj{w:World}{B:Nat}{a:Option Addr}{c n m:Nat}{t:TypeId}{xs:List Value}(h:w.ownsRow B t m (.slice a n c) n xs):c≤maxLen:=by
 rcases h.2 with ⟨h1,h0⟩ | ⟨g,cap,cur,hv,hb,hg,hnc,hcm,hcs,htake⟩
 ·injection h1 with _ e2 e3;omega
 ·injection hv with e1 e2 e3;omega
theorem se(L:List St)(S:List D3)(ids:List Int)(ar br ir:Option Addr)(cr dr er:Nat)(p:Addr)(w:World)(hn:L.length≤1048576)(hcap:L.length≤cr)(hc9:cr≤9223372036854775807)(hn2:S.length≤1048576)(hcap2:S.length≤dr)(hd9:dr≤9223372036854775807)(hn3:ids.length≤1048576)(hS:aZ w ar L L.length)(hD:dh w br S S.length)(hI:hU w ir ids ids.length)(hE:bE p w):
  Calls Tryz.prog 202 #[.slice ar L.length cr,.slice br S.length dr,.slice ir ids.length er] w fun e w'=>e=.returned (.bool (bL L S ids))∧Below w.heap.size w w':=by
 have cK:=yz (fun (W:World) hW hE=>fz L ar cr p W hn hcap hc9 hW hE);have cP:=yz (fun (W:World) hW=>gx S br dr W hn2 hcap2 hd9 hW);have cO:Hid (bc L=true→S.length≤6→ids.length=S.length→∀W:World,aZ W ar L L.length→dh W br S S.length→hU W ir ids ids.length→bE p W→Calls Tryz.prog 203 #[.slice ar L.length cr,.slice br S.length dr,.slice ir ids.length er] W fun e w'=>(∃v,e=.returned v∧w'.ownsRow W.heap.size 238 7 v (az L S ids ids.length).length (dp (az L S ids ids.length)))∧Below W.heap.size W w'):=yz (fun hk hm hl W h1 h2 h3 h4=>nM L S ids ids.length ar br ir cr dr er p W hk hn hcap hc9 hm hl h1 h2 h3 h4);have H1:Hid (bc L=false→bL L S ids=false):=yz Br;have H2:Hid (ba S=false→bL L S ids=false):=yz Bs;have H3:Hid (ids.length≠S.length→bL L S ids=false):=yz Bt;have H4:Hid (bc L=true→ba S=true→ids.length=S.length→bL L S ids=eW (az L S ids ids.length) (az L S ids ids.length).length):=yz Bu;have H6:Hid (ba S=true→S.length≤6):=yz (fun h=>(bS h).1);have hAL:=iG L S ids ids.length;have HS:=yz hS;have HD:=yz hD;have HI:=yz hI;have HE:=yz hE;clear hS hD hI hE;generalize bL L S ids=R at *;generalize az L S ids ids.length=A at *;generalize S.length=m at *;generalize ids.length=k at *;generalize L.length=n at *;go_enter Tryz.func202,Tryz.ntmps202;go_wp2_with fail;refine(yy cK _ (yy HS) (yy HE)).mono ?_;rintro e W1 ⟨rfl,hx⟩;have B1:=yz hx;clear hx;cases hk:bc L
 ·obtain rfl:=yy H1 hk;go_wp2_with fail;go_ret;exact⟨rfl,yy B1⟩
 go_wp2_with fail;refine(yy cP _ ((yy HD).kept (yy B1))).mono ?_;rintro e W2 ⟨rfl,hx⟩;have B2:=ax B1 hx;clear hx B1;cases hp:ba S
 ·obtain rfl:=yy H2 hp;go_wp2_with fail;go_ret;exact⟨rfl,yy B2⟩
 by_cases hl0:k≠m
 ·obtain rfl:=yy H3 hl0;have hl':¬(k:Int)=(m:Int):=by omega
  have hl2:((k:Int)==(m:Int))=false:=by simp;omega
  go_wp2_with fail;go_ret;exact⟨rfl,yy B2⟩
 have hl:k=m:=Decidable.not_not.1 hl0;clear hl0;have HR:=yz (yy H4 hk hp hl);have hm6:=yy H6 hp;have cO':=yz (yy cO hk hm6 hl);subst hl;clear hk hp H1 H2 H3 H4 H6 cK cP cO;go_wp2_with fail;refine(yy cO' _ ((yy HS).kept (yy B2)) ((yy HD).kept (yy B2)) ((yy HI).kept (yy B2)) ((yy HE).kept (yy B2))).mono ?_;rintro e W3 ⟨⟨v3,rfl,ho⟩,hx⟩;obtain⟨a3,c3,rfl⟩:=Dt ho;have hcap3:=Al ho (by omega);have HSG:=yz (mC ho);have B3:=ax B2 hx;have hc39:c3≤9223372036854775807:=Nat.le_trans (rj ho) (by decide +kernel);clear ho hx B2 cO';generalize hal:A.length=al at *;clear hal;have cF:Hid (∀(s:Sg) (i:Nat) (a:Option Addr) (W:World),i≤al→fD W a A i→Calls Tryz.prog 182 #[sgV s,.slice a i c3] W fun e w'=>e=.returned (.bool (eH A s i))∧Below W.heap.size W w'):=yz (fun s i a W hi hs=>kH A i s a c3 W (by omega) (by omega) hc39 hs);go_wp2_with fail;rcases yy HSG with h0 | ⟨sb,so,rfl,hsb,hsc⟩
 ·subst h0;have HY:Hid (R=true):=yz (by rw[yy HR];rfl);refine wp_loop_rounds 1 ?_;rw[rounds_succ];go_wp2_with fail;go_ret;exact⟨by rw[yy HY];rfl,yy B3⟩
 have HSC:=yz hsc;clear hsc;have hsb3:sb<W3.heap.size:=hsb;go_loopw [31] (fun kk wr=>∃i:Nat,i≤al∧kk=J Y i∧Hid (∀j,j<i→(!iN (sgA A j).2.2&&eH A (sgA A j) j)=true)∧Hid (Below W3.heap.size W3 wr)) (fun kk _=>al-(intOf kk).toNat)
 case atStart=>exact⟨0,by omega,rfl,yz (fun j hj=>absurd hj (Nat.not_lt_zero _)),yz (Below.refl _ _)⟩
 case round=>
  obtain⟨i,hi,rfl,HF,HB⟩:=hrel;by_cases hin:i<al
  ·have hin2:(i:Int)<(al:Int):=by omega
   obtain⟨t,ht⟩:∃t,sgA A i=t:=⟨_,rfl⟩
   have hst:=((yy HSC) i hin).kept (yy HB);rw[ht]at hst;have HT:=yz ht;clear ht;have HSi:Hid (fD wr (some ⟨sb,so,none⟩) A i):=yz ((((yy HSG).less (Nat.le_of_lt hin))).kept (yy HB));have cFi:=yz (fun W h=>yy cF t i (some ⟨sb,so,none⟩) W (Nat.le_of_lt hin) h);have HOK:Hid ((!iN (sgA A i).2.2&&eH A (sgA A i) i)=(!iN t.2.2&&eH A t i)):=yz (by rw[yy HT]);have Z:=an wr (.cells #[J Y t.1.1,J Y t.1.2.1,J Y t.1.2.2,J Y t.2.1,J Y t.2.2.1,J Y t.2.2.2.1,J Y t.2.2.2.2] 238);have T1:=gw wr t 238;have HB1:=ax HB Z;have HS1:=ap HSi Z;clear Z HB HSi;generalize hfv:eH A t i=fv at *;clear hfv;obtain⟨⟨b1,b2,b3⟩,b4,b5,b6,b7⟩:=t;have cFj:Hid (∀(W:World),fD W (some ⟨sb,so,none⟩) A i→Calls Tryz.prog 182 #[.agg #[J Y b1,J Y b2,J Y b3,J Y b4,J Y b5,J Y b6,J Y b7],.slice (some ⟨sb,so,none⟩) i c3] W fun e w'=>e=.returned (.bool fv)∧Below W.heap.size W w'):=cFi;clear cFi;have HOK':Hid ((!iN (sgA A i).2.2&&eH A (sgA A i) i)=(!eqB b5 b6 b7 0 0 0&&fv)):=HOK;clear HOK;have he:=fun W=>ut b5 b6 b7 0 0 0 W;obtain⟨c0,c1,c2,c3',c4,c5,c6⟩:=hst;simp only at c0 c1 c2 c3' c4 c5 c6 T1 HB1 HS1;go_wp2_with fail;clear c0 c1 c2 c3' c4 c5 c6;generalize wr.alloc (.cells #[J Y b1,J Y b2,J Y b3,J Y b4,J Y b5,J Y b6,J Y b7] 238)=W4 at T1 HB1 HS1 ⊢;generalize wr.heap.size=tb at *;obtain⟨x0,x1,x2,x3,x4,x5,x6⟩:=T1;simp only[Nat.zero_add]at x0 x1 x2 x3 x4 x5 x6;have r0:=cell_regrown x0;have r1:=cell_regrown x1;have r2:=cell_regrown x2;have r3:=cell_regrown x3;have r4:=cell_regrown x4;have r5:=cell_regrown x5;have r6:=cell_regrown x6;clear x0 x1 x2 x3 x4 x5 x6;have hic:(i:Int)≤(c3:Int):=by omega
   cases hz:eqB b5 b6 b7 0 0 0
   ·rw[hz]at he HOK';rw[Bool.not_false,Bool.true_and]at HOK';refine dg ?_;repeat (go_big_quiet_step (first | (with_reducible exact Calls.regrown_of (yy cFj _ ((yy HS1).kept (below_regrown _ _ _))))))
    refine dv fun dq osq=>?_;have hx:=ak (yy HB1) (below_regrown W4 dq osq);generalize grow (redrawn W4 dq) osq=W5 at hx ⊢;have HB5:=yz hx;clear hx r0 r1 r2 r3 r4 r5 r6 he cFj HS1 HB1;cases fv
    ·have HNO:Hid (R=false):=yz (by rw[yy HR];exact sQ hin (yy HOK'));go_wp2_with fail;go_ret;exact⟨by rw[yy HNO];rfl,(yy B3).trans ((yy HB5).mono (yy B3).size)⟩
    ·go_wp2_with fail;go_roundw
     case rel=>exact⟨i+1,by omega,by go_num,yz (fun l hl=>by
      by_cases e:l=i
      ·rw[e];exact yy HOK'
      ·exact yy HF l (by omega)),HB5⟩
     case measure=>simp[intOf]<;>omega
   ·rw[hz]at he HOK';have HNO:Hid (R=false):=yz (by rw[yy HR];exact sQ hin (yy HOK'));refine dg ?_;repeat (go_big_quiet_step (fail))
    refine dv fun dq osq=>?_;have hx:=ak (yy HB1) (below_regrown W4 dq osq);generalize grow (redrawn W4 dq) osq=W5 at hx ⊢;go_wp2_with fail;go_ret;exact⟨by rw[yy HNO];rfl,(yy B3).trans (hx.mono (yy B3).size)⟩
  ·have hin':i=al:=by omega
   subst hin';have HY:Hid (R=true):=yz (by rw[yy HR];exact yq (yy HF));go_wp2_with fail;go_ret;exact⟨by rw[yy HY];rfl,(yy B3).trans ((yy HB).mono (yy B3).size)⟩
theorem AM{p q r:D3}(hp:aA p.1 p.2.1 p.2.2=true)(hq:aA q.1 q.2.1 q.2.2=true)(hr:aA r.1 r.2.1 r.2.2=true):
  rX p q r=bG (crW p.2.1 p.2.2 q.2.1 q.2.2) (crW p.2.2 p.1 q.2.2 q.1) (crW p.1 p.2.1 q.1 q.2.1) r.1 r.2.1 r.2.2:=by
 unfold rX rY;rw[hp,hq,hr];rfl
theorem ta(p q r:D3)(hp:aA p.1 p.2.1 p.2.2=true)(hq:aA q.1 q.2.1 q.2.2=true)(hr:aA r.1 r.2.1 r.2.2=true):∃(x1 x2 x3 d:Int),
  Hid (∀W:World,Calls Tryz.prog 72 #[.agg #[J Y p.1,J Y p.2.1,J Y p.2.2],.agg #[J Y q.1,J Y q.2.1,J Y q.2.2]] W fun e w'=>e=.returned (.agg #[J Y x1,J Y x2,J Y x3])∧Below W.heap.size W w')
  ∧ Hid (∀W:World,Calls Tryz.prog 73 #[.agg #[J Y x1,J Y x2,J Y x3],.agg #[J Y r.1,J Y r.2.1,J Y r.2.2]] W fun e w'=>e=.returned (J Y d)∧Below W.heap.size W w')
  ∧ Hid (∀W:World,Calls Tryz.prog 130 #[J Y d] W fun e w'=>e=.returned (J Y (ic (rX p q r) 0))∧Below W.heap.size W w'):=by
 refine⟨_,_,_,_,yz (fun W=>ns _ _ _ _ _ _ W),yz (fun W=>fU _ _ _ _ _ _ W),yz (fun W=>(ey _ W).mono fun e w' h=>?_)⟩;obtain⟨he,hw⟩:=h;refine⟨?_,by rw[hw];exact Below.refl _ _⟩;rw[he,AM hp hq hr];rfl
theorem Cw(p q r s:D3)(hp:jI p=true)(hq:jI q=true)(hr:aU r.1 r.2.1 r.2.2=true)(hs:aU s.1 s.2.1 s.2.2=true)(W:World):
  Calls Tryz.prog 129 #[.agg #[J Y p.1,J Y p.2.1,J Y p.2.2],.agg #[J Y q.1,J Y q.2.1,J Y q.2.2],.agg #[J Y r.1,J Y r.2.1,J Y r.2.2],.agg #[J Y s.1,J Y s.2.1,J Y s.2.2]] W fun e w'=>e=.returned (J Y (oq p.1 p.2.1 p.2.2 q.1 q.2.1 q.2.2 r.1 r.2.1 r.2.2 s.1 s.2.1 s.2.2))∧Below W.heap.size W w':=by
 rw[Ew hp hq hr hs];exact yS _ _ _ _ _ _ _ _ _ _ _ _ W
def ji(L:List St)(S:List D3)(ids:List Int)(s:Sg)(i:Nat):Bool:=decide (ids.getD i 0=0) || (decide (s.2.1≠ids.getD i 0)&&kv s (bW L S ids i)&&(List.range i).all (fun j=>decide (ids.getD j 0=0) || dW s (bW L S ids j) (bW L S ids i)))
variable {ids:List Int} {i j m:Nat} {w:World}
theorem AP{L:List St}{S:List D3}{s:Sg}{n:Nat}(h:∀i,i<n→ji L S ids s i=true):jv L S ids s n=true:=by
 unfold jv;rw[List.all_eq_true];exact fun i hi=>h i (List.mem_range.1 hi)
theorem qA{L:List St}{S:List D3}{s:Sg}{n:Nat}(hi:i<n)(h:ji L S ids s i=false):jv L S ids s n=false:=by
 unfold jv;rw[List.all_eq_false];exact⟨i,List.mem_range.2 hi,by unfold ji at h;rw[h];simp⟩
theorem zB{L:List St}{S:List D3}{s:Sg}(h:ids.getD i 0=0):ji L S ids s i=true:=by unfold ji;rw[decide_eq_true h,Bool.true_or]
theorem zy{L:List St}{S:List D3}{s:Sg}(h:ids.getD i 0≠0)(h1:s.2.1=ids.getD i 0):ji L S ids s i=false:=by
 unfold ji;rw[decide_eq_false h,Bool.false_or,show decide (s.2.1≠ids.getD i 0)=false from decide_eq_false (fun g=>g h1)];rfl
theorem BU{L:List St}{S:List D3}{s:Sg}(h:ids.getD i 0≠0)(h1:kv s (bW L S ids i)=false):ji L S ids s i=false:=by
 unfold ji;rw[decide_eq_false h,Bool.false_or,h1,Bool.and_false];rfl
theorem zA{L:List St}{S:List D3}{s:Sg}(h:ids.getD i 0≠0)(hj:j<i)(h0:ids.getD j 0≠0)(h1:dW s (bW L S ids j) (bW L S ids i)=false):ji L S ids s i=false:=by
 unfold ji
 have:((List.range i).all fun j=>decide (ids.getD j 0=0) || dW s (bW L S ids j) (bW L S ids i))=false:=by
  rw[List.all_eq_false];exact⟨j,List.mem_range.2 hj,by rw[decide_eq_false h0,h1];simp⟩
 rw[decide_eq_false h,Bool.false_or,this,Bool.and_false]
theorem BV{L:List St}{S:List D3}{s:Sg}(h1:s.2.1≠ids.getD i 0)(h2:kv s (bW L S ids i)=true)(h3:∀j,j<i→(decide (ids.getD j 0=0) || dW s (bW L S ids j) (bW L S ids i))=true):ji L S ids s i=true:=by
 unfold ji;rw[decide_eq_true h1,h2,show ((List.range i).all fun j=>decide (ids.getD j 0=0) || dW s (bW L S ids j) (bW L S ids i))=true from List.all_eq_true.2 (fun j hj=>h3 j (List.mem_range.1 hj))];simp
def pZ(L:List St)(S:List D3)(ids:List Int)(s:Sg)(i j:Nat):Prop:=∀l,l<j→(decide (ids.getD l 0=0) || dW s (bW L S ids l) (bW L S ids i))=true
theorem mA{L:List St}{S:List D3}{s:Sg}(h:pZ L S ids s i j)(h1:(decide (ids.getD j 0=0) || dW s (bW L S ids j) (bW L S ids i))=true):pZ L S ids s i (j+1):=fun l hl=>by
 by_cases e:l=j
 ·rw[e];exact h1
 ·exact h l (by omega)
theorem zu(L:List St)(S:List D3)(ids:List Int)(s:Sg)(i:Nat):pZ L S ids s i 0:=fun j hj=>absurd hj (Nat.not_lt_zero _)
theorem wX(L:List St)(S:List D3)(ids:List Int)(k:Nat)(id:Int)(ar br ir:Option Addr)(cr dr er:Nat)(w:World)(hk6:k≤6)(hn:L.length≤12)(hS:aZ w ar L L.length)(hD:dh w br S (k+1))(hI:hU w ir ids k)
  (hwd:∀i,i≤k→jI (vA S i)=true) (hid:aU (atV L L.length id).1 (atV L L.length id).2.1 (atV L L.length id).2.2=true) (hids:∀i,i<k→ids.getD i 0≠0→aU (atV L L.length (ids.getD i 0)).1 (atV L L.length (ids.getD i 0)).2.1 (atV L L.length (ids.getD i 0)).2.2=true) :
  Calls Tryz.prog 102 #[.slice ar L.length cr,.slice br (k+1) dr,.slice ir k er,J Y id] w fun e w'=>e=.returned (.bool (jv L S ids (vA S k,(id,atV L L.length id)) k))∧Below w.heap.size w w':=by
 have cA:=yz (fun (W:World) (q:Int) hW=>oE L L.length q ar cr W (by omega) hW);have HS:=yz hS;have HD:=yz hD;have HWD:=yz hwd;have HDS:=yz hids;have HSO:Hid (∀i,bW L S ids i=(vA S i,(ids.getD i 0,atV L L.length (ids.getD i 0)))):=yz (fun i=>rfl);clear hS hD hwd hids;obtain⟨⟨p1,p2,p3⟩,hp⟩:∃p,vA S k=p:=⟨_,rfl⟩
 obtain⟨⟨q1,q2,q3⟩,hq⟩:∃p,atV L L.length id=p:=⟨_,rfl⟩
 obtain⟨sg,hsg⟩:∃sg:Sg,sg=((p1,p2,p3),(id,q1,q2,q3)):=⟨_,rfl⟩
 have cV:=yz (fun (W:World) hW=>yy cA W id hW);rw[hq]at hid cV;have HWK:Hid (jI (p1,p2,p3)=true):=yz (by rw[←hp];exact yy HWD k (Nat.le_refl _));have HIDS:=yz hid;rw[hp,hq,←hsg];have HSG:=yz hsg;have HP:=yz hp;clear hp hq hsg hid;generalize L.length=n at *;go_enter Tryz.func102,Tryz.ntmps102;go_wp2_with fail;refine(yy cV _ (yy HS)).mono ?_;rintro e W1 ⟨rfl,hx⟩;unfold vQ;simp only;have Z:=an W1 (.cells #[J Y q1,J Y q2,J Y q3] 72);have HB1:=yz (ak hx Z);have HV1:=yz (aM W1 q1 q2 q3 72);clear hx Z cV;go_wp2_with fail;generalize W1.alloc (.cells #[J Y q1,J Y q2,J Y q3] 72)=W2 at HB1 HV1 ⊢;generalize W1.heap.size=vb at *;rcases hI with h0 | ⟨ib,io,rfl,hib,hic⟩
 ·subst h0;refine wp_loop_rounds 1 ?_;rw[rounds_succ];go_wp2_with fail;go_ret;exact⟨rfl,yy HB1⟩
 have HIC:=yz hic;clear hic;rcases yy HD with h | ⟨bb,bo,rfl,hbb,hbc⟩
 ·omega
 have HBC:=yz hbc;clear hbc;go_loopw [11] (fun kk wr=>∃i:Nat,i≤k∧kk=J Y i∧Hid (∀j,j<i→ji L S ids sg j=true)∧Hid (aK wr vb q1 q2 q3)∧Hid (Below w.heap.size w wr)) (fun kk _=>k-(intOf kk).toNat)
 case atStart=>exact⟨0,by omega,rfl,yz (fun j hj=>absurd hj (Nat.not_lt_zero _)),HV1,HB1⟩
 case round=>
  clear HV1 HB1;obtain⟨i,hi,rfl,HF,HV,HB⟩:=hrel;by_cases hik:i<k
  ·have hik2:(i:Int)<(k:Int):=by omega
   have ci:wr.cell? ⟨ib,io+i,none⟩=some (J Y (ids.getD i 0)):=by rw[(yy HB).cell (p:=⟨ib,io+i,none⟩) hib];exact yy HIC i hik
   have HSI:=yz (yy HSO i);obtain⟨x,hxi⟩:∃x,ids.getD i 0=x:=⟨_,rfl⟩
   rw[hxi]at ci HSI;have HX:=yz hxi;clear hxi;by_cases hx0:x=0
   ·subst hx0;have HOK:=yz (zB (L:=L) (S:=S) (s:=sg) (yy HX));go_wp2_with fail;go_roundw
    case rel=>exact⟨i+1,by omega,by go_num,yz (fun l hl=>by
     by_cases e:l=i
     ·rw[e];exact yy HOK
     ·exact yy HF l (by omega)),HV,HB⟩
    case measure=>simp[intOf]<;>omega
   have hx0':(x==0)=false:=by simp[hx0]
   have HXN:Hid (ids.getD i 0≠0):=yz (by rw[yy HX];exact hx0);by_cases hxd:x=id
   ·subst hxd;have HNO:=yz (qA hik (zy (L:=L) (S:=S) (s:=sg) (yy HXN) (by rw[yy HX,yy HSG])));go_wp2_with fail;go_ret;exact⟨by rw[yy HNO];rfl,yy HB⟩
   have hxd':(x==id)=false:=by simp[hxd]
   have HDX:Hid (sg.2.1≠ids.getD i 0):=yz (by rw[yy HX,yy HSG];exact fun e=>hxd e.symm);have cW:=yz (fun (W:World) hW=>yy cA W x hW);have hsmx:=yy HDS i hik (yy HXN);rw[yy HX]at hsmx;obtain⟨⟨w1,w2,w3⟩,hwv⟩:∃p,atV L n x=p:=⟨_,rfl⟩
   rw[hwv]at cW hsmx HSI;clear hwv;obtain⟨⟨s1,s2,s3⟩,hsv⟩:∃p,vA S i=p:=⟨_,rfl⟩
   have HSVI:=yz hsv;rw[hsv]at HSI;have hwi:=yy HWD i (by omega);rw[hsv]at hwi;clear hsv;go_wp2_with fail;refine(yy cW _ ((yy HS).kept (yy HB))).mono ?_;rintro e W3 ⟨rfl,hx⟩;unfold vQ;simp only;have Z:=an W3 (.cells #[J Y w1,J Y w2,J Y w3] 72);have HB3:=ax (ax HB hx) Z;have HV3:=yz (((yy HV).kept (oc (yy HV)) hx).kept (Nat.lt_of_lt_of_le (oc (yy HV)) hx.size) Z);have HW3:=yz (aM W3 w1 w2 w3 72);clear hx Z cW ci HB HV;go_wp2_with fail;generalize W3.alloc (.cells #[J Y w1,J Y w2,J Y w3] 72)=W4 at HB3 HV3 HW3 ⊢;generalize W3.heap.size=wb at *;have hsp:=(yy HBC i (by omega)).kept hbb (yy HB3);have hpp:=(yy HBC k (by omega)).kept hbb (yy HB3);rw[yy HSVI]at hsp;rw[yy HP]at hpp;have cC:=yz (fun W=>Cw (s1,s2,s3) (p1,p2,p3) (w1,w2,w3) (q1,q2,q3) hwi (yy HWK) hsmx (yy HIDS) W);have HFA:Hid (kv sg (bW L S ids i)=decide (oq s1 s2 s3 p1 p2 p3 w1 w2 w3 q1 q2 q3=0)):=yz (by rw[yy HSI,yy HSG];rfl);generalize oq s1 s2 s3 p1 p2 p3 w1 w2 w3 q1 q2 q3=cv at *;simp only at cC;obtain⟨c0,c1,c2⟩:=hsp;obtain⟨d0,d1,d2⟩:=hpp;obtain⟨e0,e1,e2⟩:=yy HV3;obtain⟨f0,f1,f2⟩:=yy HW3;have rc0:=cell_regrown c0;have rc1:=cell_regrown c1;have rc2:=cell_regrown c2;have rd0:=cell_regrown d0;have rd1:=cell_regrown d1;have rd2:=cell_regrown d2;have re0:=cell_regrown e0;have re1:=cell_regrown e1;have re2:=cell_regrown e2;have rf0:=cell_regrown f0;have rf1:=cell_regrown f1;have rf2:=cell_regrown f2;clear c0 c1 c2 d0 d1 d2 e0 e1 e2 f0 f1 f2;have hik3:(i:Int)<(k:Int)+1:=by omega
   have hkk3:(k:Int)<(k:Int)+1:=by omega
   refine dg ?_;repeat (go_big_quiet_step (with_reducible first | exact aO cC))
   refine dv fun dq osq=>?_;have hx:=below_regrown W4 dq osq;have HB5:=ax HB3 hx;have HV5:=yz ((yy HV3).kept (oc (yy HV3)) hx);have HW5:=yz ((yy HW3).kept (oc (yy HW3)) hx);generalize grow (redrawn W4 dq) osq=W5 at hx HB5 HV5 HW5 ⊢;clear hx rc0 rc1 rc2 rd0 rd1 rd2 re0 re1 re2 rf0 rf1 rf2 cC HB3 HV3 HW3;by_cases hcv:cv≠0
   ·have hcv':(cv==0)=false:=by simp[hcv]
    have HNO:=yz (qA hik (BU (L:=L) (S:=S) (s:=sg) (yy HXN) (by rw[yy HFA];exact decide_eq_false hcv)));go_wp2_with fail;go_ret;exact⟨by rw[yy HNO];rfl,yy HB5⟩
   have hcv0:cv=0:=Decidable.not_not.1 hcv;subst hcv0;clear hcv;have HFT:Hid (kv sg (bW L S ids i)=true):=yz (by rw[yy HFA];rfl);clear HFA;go_wp2_with fail;go_loopw [13] (fun kk wr=>∃j:Nat,j≤i∧kk=J Y j∧Hid (pZ L S ids sg i j)∧Hid (aK wr vb q1 q2 q3)∧Hid (aK wr wb w1 w2 w3)∧Hid (Below w.heap.size w wr)) (fun kk _=>i-(intOf kk).toNat)
   case atStart=>exact⟨0,by omega,rfl,yz (zu _ _ _ _ _),HV5,HW5,HB5⟩
   case round=>
    clear HV5 HW5 HB5;obtain⟨j,hj,rfl,HL,HV,HW,HB⟩:=hrel;by_cases hji:j<i
    ·have hji2:(j:Int)<(i:Int):=by omega
     have hjk2:(j:Int)<(k:Int):=by omega
     have ci:wr.cell? ⟨ib,io+j,none⟩=some (J Y (ids.getD j 0)):=by rw[(yy HB).cell (p:=⟨ib,io+j,none⟩) hib];exact yy HIC j (by omega)
     have HSJ:=yz (yy HSO j);obtain⟨y,hyi⟩:∃x,ids.getD j 0=x:=⟨_,rfl⟩
     rw[hyi]at ci HSJ;have HY:=yz hyi;clear hyi;by_cases hy0:y=0
     ·subst hy0;have HOK:Hid ((decide (ids.getD j 0=0) || dW sg (bW L S ids j) (bW L S ids i))=true):=yz (by rw[yy HY];rfl);go_wp2_with fail;go_roundw
      case rel=>exact⟨j+1,by omega,by go_num,yz (mA (yy HL) (yy HOK)),HV,HW,HB⟩
      case measure=>simp[intOf]<;>omega
     have hy0':(y==0)=false:=by simp[hy0]
     have HYN:Hid (ids.getD j 0≠0):=yz (by rw[yy HY];exact hy0);have cU:=yz (fun (W:World) hW=>yy cA W y hW);have hsmy:=yy HDS j (by omega) (yy HYN);rw[yy HY]at hsmy;obtain⟨⟨u1,u2,u3⟩,huv⟩:∃p,atV L n y=p:=⟨_,rfl⟩
     rw[huv]at cU hsmy HSJ;clear huv;obtain⟨⟨t1,t2,t3⟩,htv⟩:∃p,vA S j=p:=⟨_,rfl⟩
     have HTVJ:=yz htv;rw[htv]at HSJ;have hwj:=yy HWD j (by omega);rw[htv]at hwj;clear htv;go_wp2_with fail;refine(yy cU _ ((yy HS).kept (yy HB))).mono ?_;rintro e W6 ⟨rfl,hx⟩;unfold vQ;simp only;have Z:=an W6 (.cells #[J Y u1,J Y u2,J Y u3] 72);have HB6:=ax (ax HB hx) Z;have HV6:=yz (((yy HV).kept (oc (yy HV)) hx).kept (Nat.lt_of_lt_of_le (oc (yy HV)) hx.size) Z);have HW6:=yz (((yy HW).kept (oc (yy HW)) hx).kept (Nat.lt_of_lt_of_le (oc (yy HW)) hx.size) Z);have HU6:=yz (aM W6 u1 u2 u3 72);clear hx Z cU ci HB HV HW;go_wp2_with fail;generalize W6.alloc (.cells #[J Y u1,J Y u2,J Y u3] 72)=W7 at HB6 HV6 HW6 HU6 ⊢;generalize W6.heap.size=ub at *;have hsp:=(yy HBC i (by omega)).kept hbb (yy HB6);have htp:=(yy HBC j (by omega)).kept hbb (yy HB6);have hpp:=(yy HBC k (by omega)).kept hbb (yy HB6);rw[yy HSVI]at hsp;rw[yy HTVJ]at htp;rw[yy HP]at hpp;obtain⟨x1,x2,x3,dd,cX,cY,cZ⟩:=ta (t1,t2,t3) (s1,s2,s3) (p1,p2,p3) (hH hwj).1 (hH hwi).1 (hH (yy HWK)).1;obtain⟨y1,y2,y3,d2,cX2,cY2,cZ2⟩:=ta (u1,u2,u3) (w1,w2,w3) (q1,q2,q3) (bI hsmy).1 (bI hsmx).1 (bI (yy HIDS)).1;have HSB:Hid (dW sg (bW L S ids j) (bW L S ids i)=decide (ic (rX (t1,t2,t3) (s1,s2,s3) (p1,p2,p3)) 0=ic (rX (u1,u2,u3) (w1,w2,w3) (q1,q2,q3)) 0)):=yz (by rw[yy HSI,yy HSJ,yy HSG];rfl);generalize ic (rX (t1,t2,t3) (s1,s2,s3) (p1,p2,p3)) 0=o1 at *;generalize ic (rX (u1,u2,u3) (w1,w2,w3) (q1,q2,q3)) 0=o2 at *;simp only at cX cY cZ cX2 cY2 cZ2;obtain⟨c0,c1,c2⟩:=hsp;obtain⟨d0,d1,d2'⟩:=hpp;obtain⟨e0,e1,e2⟩:=yy HV6;obtain⟨f0,f1,f2⟩:=yy HW6;obtain⟨g0,g1,g2⟩:=yy HU6;obtain⟨h0,h1,h2⟩:=htp;have rc0:=cell_regrown c0;have rc1:=cell_regrown c1;have rc2:=cell_regrown c2;have rd0:=cell_regrown d0;have rd1:=cell_regrown d1;have rd2:=cell_regrown d2';have re0:=cell_regrown e0;have re1:=cell_regrown e1;have re2:=cell_regrown e2;have rf0:=cell_regrown f0;have rf1:=cell_regrown f1;have rf2:=cell_regrown f2;have rg0:=cell_regrown g0;have rg1:=cell_regrown g1;have rg2:=cell_regrown g2;have rh0:=cell_regrown h0;have rh1:=cell_regrown h1;have rh2:=cell_regrown h2;clear c0 c1 c2 d0 d1 d2' e0 e1 e2 f0 f1 f2 g0 g1 g2 h0 h1 h2;have hjk3:(j:Int)<(k:Int)+1:=by omega
     refine dg ?_;repeat (go_big_quiet_step (with_reducible first | exact aO cX | exact aO cY | exact aO cZ | exact aO cX2 | exact aO cY2 | exact aO cZ2))
     refine dv fun dq osq=>?_;have hx:=below_regrown W7 dq osq;have HB8:=ax HB6 hx;have HV8:=yz ((yy HV6).kept (oc (yy HV6)) hx);have HW8:=yz ((yy HW6).kept (oc (yy HW6)) hx);generalize grow (redrawn W7 dq) osq=W8 at hx HB8 HV8 HW8 ⊢;clear hx rc0 rc1 rc2 rd0 rd1 rd2 re0 re1 re2 rf0 rf1 rf2 rg0 rg1 rg2 rh0 rh1 rh2 cX cY cZ cX2 cY2 cZ2 HB6 HV6 HW6 HU6;by_cases ho:o1=o2
     ·subst ho;have HOK:Hid ((decide (ids.getD j 0=0) || dW sg (bW L S ids j) (bW L S ids i))=true):=yz (by rw[yy HSB];simp);go_wp2_with fail;go_roundw
      case rel=>first | exact⟨j+1,by omega,by go_num,yz (mA (yy HL) (yy HOK)),HV8,HW8,HB8⟩ | exact⟨j+1,by omega,by omega,yz (mA (yy HL) (yy HOK))⟩
      case measure=>simp[intOf]<;>omega
     ·have ho':(o1==o2)=false:=by simp[ho]
      have HNO:=yz (qA hik (zA (L:=L) (S:=S) (s:=sg) (yy HXN) hji (yy HYN) (by rw[yy HSB];exact decide_eq_false ho)));go_wp2_with fail;go_ret;exact⟨by rw[yy HNO];rfl,yy HB8⟩
    ·have hji':j=i:=by omega
     subst hji';have HOK:=yz (BV (yy HDX) (yy HFT) (yy HL));go_wp2_with fail;go_roundw
     case rel=>exact⟨j+1,by omega,by go_num,yz (fun l hl=>by
      by_cases e:l=j
      ·rw[e];exact yy HOK
      ·exact yy HF l (by omega)),HV,HB⟩
     case measure=>simp[intOf]<;>omega
  ·have hik':i=k:=by omega
   subst hik';have HY:=yz (AP (yy HF));go_wp2_with fail;go_ret;exact⟨by rw[yy HY];rfl,yy HB⟩
theorem dh.sub{a:Option Addr}{L:List D3}{n:Nat}(h:dh w a L n)(hm:m≤n):dh w a L m:=h.less hm
theorem hU.less{a:Option Addr}{L:List Int}{n:Nat}(h:hU w a L n)(hm:m≤n):hU w a L m:=by
 rcases h with h | ⟨b,o,ha,hb,hc⟩
 ·exact .inl (by omega)
 ·exact .inr ⟨b,o,ha,hb,fun i hi=>hc i (by omega)⟩
end
section
open Go.RowKit Go.Sort
def mN(w:World)(b:Nat)(v0 v1 v2:Value)(c m:Int):Prop:=w.cell? ⟨b,0,none⟩=some v0∧w.cell? ⟨b,1,none⟩=some v1∧w.cell? ⟨b,2,none⟩=some v2∧w.cell? ⟨b,3,none⟩=some (.int .i64 c)∧w.cell? ⟨b,4,none⟩=some (.int .i64 m)
variable {m:Int} {ids:List Int} {xs:List Value} {x:Nat} {ir:Option Addr} {v v0 v1 v2:Value} {w w':World}
theorem bC{a:Addr}(h:w.cell? a=some v)(hB:Below w.heap.size w w'):w'.cell? a=some v:=(hB.cell (World.block_lt_of_cell? w a h)).trans h
theorem eD{a:Addr}{row:Option Nat}(h:w.cell? a=some v)(hg:w.grownBy w' row)(hne:some a.block≠row):w'.cell? a=some v:=(World.cell?_of_block (hg.block a.block (World.block_lt_of_cell? w a h) hne)).trans h
theorem mN.kept{b:Nat}{c:Int}(h:mN w b v0 v1 v2 c m)(hB:Below w.heap.size w w'):mN w' b v0 v1 v2 c m:=⟨bC h.1 hB,bC h.2.1 hB,bC h.2.2.1 hB,bC h.2.2.2.1 hB,bC h.2.2.2.2 hB⟩
theorem mN.lt{b:Nat}{c:Int}(h:mN w b v0 v1 v2 c m):b<w.heap.size:=World.block_lt_of_cell? w _ h.1
def ig(w:World)(b:Nat):Prop:=∀i,w.frozen? ⟨b,i,none⟩=false
theorem ig.kept{b:Nat}(h:ig w b)(hb:b<w.heap.size)(hB:Below w.heap.size w w'):ig w' b:=fun i=>(hB.frozen (p:=⟨b,i,none⟩) hb).trans (h i)
theorem ig.set{b:Nat}(h:ig w b)(p:Addr)(v:Value):ig (w.setCell p v) b:=fun i=>by rw[World.frozen?_setCell];exact h i
def lP(w:World)(x:Nat)(ir:Option Addr)(ids:List Int):Prop:=(ids=[]∧ir=none)∨∃g,ir=some ⟨g,0,none⟩∧g≠x∧g<w.heap.size∧∀i,i<ids.length→w.cell? ⟨g,i,none⟩=some (.int .i64 (ids.getD i 0))
theorem lP.nums(h:lP w x ir ids):hU w ir ids ids.length:=by
 rcases h with ⟨rfl,_⟩ | ⟨g,rfl,_,hl,hc⟩
 ·exact .inl rfl
 ·exact .inr ⟨g,0,rfl,hl,fun i hi=>by rw[Nat.zero_add];exact hc i hi⟩
theorem lP.grown(h:lP w x ir ids)(hg:w.grownBy w' (some x)):lP w' x ir ids:=by
 rcases h with h | ⟨g,hi,hn,hl,hc⟩
 ·exact .inl h
 ·exact .inr ⟨g,hi,hn,Nat.lt_of_lt_of_le hl hg.size,fun i hi=>eD (hc i hi) hg (fun e=>hn (Option.some.inj e))⟩
def ug(a:Option Addr)(x:Nat):Prop:=∀y,a=some y→y.block≠x
theorem Gj{a:Option Addr}{L:List St}{n:Nat}(h:aZ w a L n)(hg:w.grownBy w' (some x))(hne:ug a x):aZ w' a L n:=by
 rcases h with h | ⟨b,o,rfl,hb,hc⟩
 ·exact .inl h
 ·refine .inr ⟨b,o,rfl,Nat.lt_of_lt_of_le hb hg.size,fun i hi=>?_⟩;have hn:∀k,some (⟨b,k,none⟩:Addr).block≠some x:=fun k e=>hne _ rfl (Option.some.inj e);obtain⟨c0,c1,c2,c3⟩:=hc i hi;exact⟨eD c0 hg (hn _),eD c1 hg (hn _),eD c2 hg (hn _),eD c3 hg (hn _)⟩
theorem Gs{a:Option Addr}{L:List D3}{n:Nat}(h:dh w a L n)(hg:w.grownBy w' (some x))(hne:ug a x):dh w' a L n:=by
 rcases h with h | ⟨b,o,rfl,hb,hc⟩
 ·exact .inl h
 ·refine .inr ⟨b,o,rfl,Nat.lt_of_lt_of_le hb hg.size,fun i hi=>?_⟩;have hn:∀k,some (⟨b,k,none⟩:Addr).block≠some x:=fun k e=>hne _ rfl (Option.some.inj e);obtain⟨c0,c1,c2⟩:=hc i hi;exact⟨eD c0 hg (hn _),eD c1 hg (hn _),eD c2 hg (hn _)⟩
structure ky (w:World) (x:Nat) (L:List St) (S:List D3) (ar br:Option Addr) (cr dr:Nat) (s:SeN):Prop where
 cells:∃v,mN w x (.slice ar L.length cr) (.slice br S.length dr) v (s.count:Int) (s.many:Int)∧w.ownsRow (x+1) 2 1 v s.best.length (fH s.best)
 free:ig w x
 stars:aZ w ar L L.length
 dirs:dh w br S S.length
 apS:ug ar x
 apD:ug br x
theorem EY{B n m:Nat}{t:TypeId}(h:w.ownsRow B t m v n xs)(hB:Below w.heap.size w w'):w'.ownsRow B t m v n xs:=by
 obtain⟨h1,h2⟩:=h;refine⟨h1,?_⟩;rcases h2 with h2 | ⟨g,c',cur,e,hg,hh,r⟩
 ·exact .inl h2
 ·exact .inr ⟨g,c',cur,e,hg,by rw[hB.block g (Array.getElem?_eq_some_iff.1 hh).1];exact hh,r⟩
theorem pX{n m:Nat}{t:TypeId}(h:w.ownsRow (x+1) t m v n xs)(o:Nat)(y:Value):(w.setCell ⟨x,o,none⟩ y).ownsRow (x+1) t m v n xs:=by
 obtain⟨h1,h2⟩:=h;refine⟨h1,?_⟩;rcases h2 with h2 | ⟨g,c',cur,e,hg,hh,r⟩
 ·exact .inl h2
 ·exact .inr ⟨g,c',cur,e,hg,by rw[Below.heap_setCell w ⟨x,o,none⟩ y g (by show g≠x;omega)];exact hh,r⟩
theorem dj(h:Below w.heap.size w w'):w.grownBy w' (some x):=⟨h.os,h.tape,h.output,h.size,fun k hk _=>h.block k hk⟩
theorem ky.kept{L:List St}{S:List D3}{ar br:Option Addr}{cr dr:Nat}{s:SeN}(h:ky w x L S ar br cr dr s)(hB:Below w.heap.size w w'):ky w' x L S ar br cr dr s:=by
 obtain⟨⟨v,h1,h2⟩,hf,hs,hd,a1,a2⟩:=h;exact⟨⟨v,h1.kept hB,EY h2 hB⟩,hf.kept h1.lt hB,hs.kept hB,hd.kept hB,a1,a2⟩
def dB(L:List St)(S:List D3)(ids:List Int)(a:Int):Bool:=jv L S ids (vA S ids.length,(a,atV L L.length a)) ids.length
def vu(L:List St)(ids:List Int):Prop:=∀i,i<ids.length→ids.getD i 0≠0→aU (atV L L.length (ids.getD i 0)).1 (atV L L.length (ids.getD i 0)).2.1 (atV L L.length (ids.getD i 0)).2.2=true
def Ch(L:List St)(S:List D3)(ar br:Option Addr)(cr dr x r:Nat):Prop:=∀(ids:List Int) (s:SeN) (ir:Option Addr) (er:Nat) (w:World),ids.length+r=S.length→vu L ids→s.many+13 ^ r≤100000000→s.count≤6→(ir=none→er=0)→lP w x ir ids→ky w x L S ar br cr dr s →
  Calls Tryz.prog 80 #[.pointer (some ⟨x,0,none⟩),.slice ir ids.length er,.int .i64 (aY ids:Int)] w fun e w'=>(∃v,e=.returned v)∧ky w' x L S ar br cr dr (eI (dB L S) (L.map (·.1)) r ids s)∧w.grownBy w' (some x)
theorem qH(L:List St)(S:List D3)(ar br:Option Addr)(cr dr x r:Nat)(hm6:S.length≤6)(ids:List Int)(s:SeN)(ir:Option Addr)(er:Nat)(w:World)(hl:ids.length+r=S.length)(hc6:s.count≤6)(hst:ky w x L S ar br cr dr s)(hp:aY ids+r<s.count):
  Calls Tryz.prog 80 #[.pointer (some ⟨x,0,none⟩),.slice ir ids.length er,.int .i64 (aY ids:Int)] w fun e w'=>(∃v,e=.returned v)∧ky w' x L S ar br cr dr (eI (dB L S) (L.map (·.1)) r ids s)∧w.grownBy w' (some x):=by
 have HS:=yz hst;have HF:=yz (wF (F:=dB L S) (A:=L.map (·.1)) hp);obtain⟨⟨v,h1,h2⟩,hf,hs,hd,a1,a2⟩:=hst;obtain⟨c0,c1,c2,c3,c4⟩:=h1;have r1:=cell_regrown c1;have r3:=cell_regrown c3;have hc:=lh ids;generalize aY ids=cn at *;generalize ids.length=k at *;generalize S.length=m at *;clear h2 hf hs hd a1 a2 c0 c1 c2 c3 c4;have hq:(cn:Int)+(m:Int)-(k:Int)<(s.count:Int):=by omega
 go_enter Tryz.func80,Tryz.ntmps80;go_wp2_with fail;refine dg ?_;repeat (go_big_quiet_step (fail))
 refine dv fun dq osq=>?_;have hx:=below_regrown w dq osq;go_wp2_with fail;refine bodyPost_ret (results_none rfl _ _ _) rfl ?_;exact⟨⟨_,rfl⟩,by rw[yy HF];exact(yy HS).kept hx,dj hx⟩
end
section
open Go.Value renaming int → J
open Go.IntKind renaming i64 → Z
open Go.RowKit Go.Sort
theorem pJ{P:Program}(w:World)(t ty e:TypeId)(i:TypeInfo)(ht:P.underlying t=some (.slice e))(hi:P.info? e=some i)(g:Nat):
  (Builtin.append_ #[t,t] ty #[.slice (some ⟨g,0,none⟩) 0 0,.slice none 0 0]).run P w=.ok (.slice (some ⟨g,0,none⟩) 0 0) w:=by
 simp[Builtin.append_,run_underlying ht,sizeOf,typeInfo,hi,Builtin.lenOf,Builtin.firstCells,loadCells,loadCellsFrom,storeCells]
variable {m:Int} {g x:Nat} {v0 v1 v2:Value} {w w' w1 w2:World}
theorem EL{ids:List Int}(hc:∀i,i<ids.length→w.cell? ⟨g,i,none⟩=some (J Z (ids.getD i 0)))(j:Nat)(u:Value)(hj:(fH ids)[j]? = some u):w.cell? ((⟨g,0,none⟩:Addr).add j)=some u:=by
 have hA:(⟨g,0,none⟩:Addr).add j=⟨g,0+j,none⟩:=by unfold Addr.add;split<;>simp_all
 unfold fH at hj;rw[List.getElem?_map]at hj
 have hlt:j<ids.length:=by
  rcases Nat.lt_or_ge j ids.length with h | h
  ·exact h
  ·rw[List.getElem?_eq_none h]at hj;cases hj
 rw[hA,Nat.zero_add,hc j hlt];rw[List.getElem?_eq_getElem hlt]at hj;rw[List.getD_eq_getElem?_getD,List.getElem?_eq_getElem hlt];exact hj
theorem CV(ids:List Int):(fH ids).length=ids.length:=by unfold fH;rw[List.length_map]
theorem gz(w:World){ops:Array Oper}{rest:List Oper}{o:Oper}{a:Act}{Q:Exit→Act→World→Prop}(hgd:o.guard=none)(s x:Operand)
  (ho:o.op=.call { callee:=.builtin .append,args:=#[s,x],argTypes:=#[81,81] })
  (base g:Nat) (hs:a.eval s=.slice (some ⟨g,0,none⟩) 0 0) (hown:w.ownsRow base 2 1 (.slice (some ⟨g,0,none⟩) 0 0) 0 []) (y:Nat) (ir:Option Addr) (er:Nat) (ids:List Int) (hx:a.eval x=.slice ir ids.length er) (he:ir=none→er=0) (hI:lP w y ir ids) (hk:ids.length≤6) (hbase:base≤w.heap.size)
  (h:∀v' w',w'.ownsRow base 2 1 v' ids.length (fH ids)→w.grownBy w' (some g)→wpList Tryz.prog ops Q rest (a.put o.dst v') w'):wpList Tryz.prog ops Q (o :: rest) a w:=by
 obtain⟨i0,hinf,hz0,hz1,hz2⟩:=info_parts kN;rcases hI with ⟨rfl,rfl⟩ | ⟨b,rfl,_,hl,hc⟩
 ·obtain rfl:=he rfl;have hr:=pJ (P:=Tryz.prog) w 81 o.type 2 i0 Tryz.underlying81 hinf g;refine wpList_plain hgd fun _ hK=>?_;unfold Oper.wp execOp;simp only[List.length_nil]at hx;simp only[ho,resolve,invoke,builtin,Sem.run_bind,Sem.run_pure,Result.andThen_ok,List.map_toArray,List.map_cons,List.map_nil,hs,hx,hr];exact hK _ _ (h _ _ hown ⟨rfl,rfl,rfl,Nat.le_refl _,fun _ _ _=>rfl⟩)
 ·have hm:6≤maxLen:=by decide +kernel
  refine wpList_append_own w hgd s x 81 ho base 2 i0 (J Z 0) 1 8 Tryz.underlying81 hinf hz0 hz1 hz2 rfl (by decide) _ 0 [] hs hown ⟨b,0,none⟩ ids.length er (fH ids) hx (by rw[CV,Nat.mul_one]) (EL hc) (fun u hu=>tB hu) (by omega) (by omega) hbase ?_;intro v' w' h2 h3 _;rw[Nat.zero_add,List.nil_append]at h2;exact h v' w' h2 h3
theorem gu{B n m:Nat}{t:TypeId}{v:Value}{xs:List Value}(h:w.ownsRow B t m v n xs):∃a cap,v=.slice a n cap:=by
 rcases h.2 with ⟨h1,h0⟩ | ⟨g,c',cur,e,_⟩
 ·exact⟨none,0,by rw[h1,h0]⟩
 ·exact⟨_,_,e⟩
theorem ts(h:w.grownBy w1 (some x))(o:Nat)(y:Value):w.grownBy (w1.setCell ⟨x,o,none⟩ y) (some x):=kJ h o y
theorem zY(h:w.grownBy w1 (some x))(o:Obj):w.grownBy (w1.alloc o) (some x):=⟨h.os,h.tape,h.output,Nat.le_trans h.size (by simp),fun k hk hn=>(Below.heap_alloc w1 o k (Nat.lt_of_lt_of_le hk h.size)).trans (h.block k hk hn)⟩
theorem Fx(h:w.grownBy w1 (some x))(hg:w1.grownBy w2 (some g))(hb:w.heap.size≤g):w.grownBy w2 (some x):=⟨hg.os.trans h.os,hg.tape.trans h.tape,hg.output.trans h.output,Nat.le_trans h.size hg.size,fun k hk hn=>(hg.block k (Nat.lt_of_lt_of_le hk h.size) (fun e=>by have:=Option.some.inj e;omega)).trans (h.block k hk hn)⟩
theorem iY(h:w.grownBy w1 (some x))(hg:w1.grownBy w2 (some x)):w.grownBy w2 (some x):=⟨hg.os.trans h.os,hg.tape.trans h.tape,hg.output.trans h.output,Nat.le_trans h.size hg.size,fun k hk hn=>(hg.block k (Nat.lt_of_lt_of_le hk h.size) hn).trans (h.block k hk hn)⟩
theorem mN.grown{b:Nat}{c:Int}{row:Option Nat}(h:mN w b v0 v1 v2 c m)(hg:w.grownBy w' row)(hne:some b≠row):mN w' b v0 v1 v2 c m:=⟨eD h.1 hg hne,eD h.2.1 hg hne,eD h.2.2.1 hg hne,eD h.2.2.2.1 hg hne,eD h.2.2.2.2 hg hne⟩
theorem ig.grown{b:Nat}{row:Option Nat}(h:ig w b)(hb:b<w.heap.size)(hg:w.grownBy w' row)(hne:some b≠row):ig w' b:=fun i=>by
 have h1:=h i;unfold World.frozen? at h1 ⊢;rw[hg.block b hb hne];exact h1
theorem Fd{b:Nat}{c:Int}(h:mN w b v0 v1 v2 c m)(c' m':Int):mN ((w.setCell ⟨b,3,none⟩ (J Z c')).setCell ⟨b,4,none⟩ (J Z m')) b v0 v1 v2 c' m':=by
 obtain⟨h0,h1,h2,h3,h4⟩:=h;refine⟨?_,?_,?_,?_,?_⟩<;>simp[go_sem,h0,h1,h2,h3,h4]
theorem Ao{b:Nat}{c:Int}(h:mN w b v0 v1 v2 c m)(v':Value)(m':Int):mN ((w.setCell ⟨b,2,none⟩ v').setCell ⟨b,4,none⟩ (J Z m')) b v0 v1 v' c m':=by
 obtain⟨h0,h1,h2,h3,h4⟩:=h;refine⟨?_,?_,?_,?_,?_⟩<;>simp[go_sem,h0,h1,h2,h3,h4]
theorem Ap{L:List St}{S:List D3}{ar br:Option Addr}{cr dr:Nat}{s s':SeN}{v':Value}(h:ky w x L S ar br cr dr s)(hg:w.grownBy w' (some x))(hc:mN w' x (.slice ar L.length cr) (.slice br S.length dr) v' (s'.count:Int) (s'.many:Int))(ho:w'.ownsRow (x+1) 2 1 v' s'.best.length (fH s'.best))(hf:ig w' x):ky w' x L S ar br cr dr s':=
 ⟨⟨v',hc,ho⟩,hf,Gj h.stars hg h.apS,Gs h.dirs hg h.apD,h.apS,h.apD⟩
theorem AV(L:List St)(S:List D3)(ar br:Option Addr)(cr dr x:Nat)(hm6:S.length≤6)(ids:List Int)(s:SeN)(ir:Option Addr)(er:Nat)(w:World)(hl:ids.length+0=S.length)(hmany:s.many+1≤100000000)(hc6:s.count≤6)(he:ir=none→er=0)(hI:lP w x ir ids)(hst:ky w x L S ar br cr dr s)(hp:¬aY ids+0<s.count):
  Calls Tryz.prog 80 #[.pointer (some ⟨x,0,none⟩),.slice ir ids.length er,J Z (aY ids:Int)] w fun e w'=>(∃v,e=.returned v)∧ky w' x L S ar br cr dr (eI (dB L S) (L.map (·.1)) 0 ids s)∧w.grownBy w' (some x):=by
 obtain⟨bst,ct,mn⟩:=s;dsimp only at hmany hc6 hp;have HS:=yz hst;have HI:=yz hI;have HF:=yz (yI (F:=dB L S) (A:=L.map (·.1)) (s:=⟨bst,ct,mn⟩) hp);obtain⟨⟨v,h1,h2⟩,hf,hs,hd,a1,a2⟩:=hst;dsimp only at h1;obtain⟨c0,c1,c2,c3,c4⟩:=h1;have r1:=cell_regrown c1;have r3:=cell_regrown c3;have hc:=lh ids;obtain⟨cn,hcn⟩:∃cn,aY ids=cn:=⟨_,rfl⟩
 have HCN:=yz hcn;rw[hcn]at hp hc ⊢;clear hcn;by_cases hgt:ct<cn
 ·have hk6:ids.length≤6:=by omega
  have HE:=yz he;have HKM:Hid (S.length=ids.length):=yz (by omega);clear h2 hf hs hd a1 a2 c0 c1 c2 c3 c4 hI he;rw[yy HKM]at r1;have hq:¬(cn:Int)<(ct:Int):=by omega
  go_enter Tryz.func80,Tryz.ntmps80;go_wp2_with fail;refine dg ?_;repeat (go_big_quiet_step (fail))
  refine dv fun dq osq=>?_;have hx:=below_regrown w dq osq;generalize grow (redrawn w dq) osq=w1 at hx ⊢;have S1:=ap HS hx;have I1:=yz ((yy HI).grown (dj hx));have B1:=yz hx;clear hx r1 r3 HS HI hq;obtain⟨⟨v,h1,h2⟩,hf,hs,hd,a1,a2⟩:=yy S1;dsimp only at h1;have H1:=yz h1;have HFr:=yz hf;have hxl:=h1.lt;obtain⟨c0,c1,c2,c3,c4⟩:=h1;rw[yy HKM]at c1;have f2:=hf 2;have f3:=hf 3;have f4:=hf 4;clear hf hs hd a1 a2 h2;have hgt':(ct:Int)<(cn:Int):=by omega
  have HO:Hid (bM ⟨bst,ct,mn⟩ ids=⟨ids,cn,1⟩):=yz (by unfold bM;rw[yy HCN,if_pos hgt]);have hz:((w1.setCell ⟨x,3,none⟩ (J Z (cn:Int))).setCell ⟨x,4,none⟩ (J Z 0)).heap.size=w1.heap.size:=by simp
  have HN:Hid ((((w1.setCell ⟨x,3,none⟩ (J Z (cn:Int))).setCell ⟨x,4,none⟩ (J Z 0)).alloc (.cells #[] 2)).ownsRow (x+1) 2 1 (.slice (some ⟨w1.heap.size,0,none⟩) 0 0) 0 []):=yz (by have:=jB ((w1.setCell ⟨x,3,none⟩ (J Z (cn:Int))).setCell ⟨x,4,none⟩ (J Z 0)) (x+1) (by omega);rw[hz]at this;exact this);have HG2:Hid (w1.grownBy (((w1.setCell ⟨x,3,none⟩ (J Z (cn:Int))).setCell ⟨x,4,none⟩ (J Z 0)).alloc (.cells #[] 2)) (some x)):=yz (zY (ts (ts (ix w1 (some x)) _ _) _ _) _);have I2:=yz ((yy I1).grown (yy HG2));have A2:=yz ((Fd (yy H1) (cn:Int) 0).kept (an _ (.cells #[] 2)));have F2:=yz ((((yy HFr).set ⟨x,3,none⟩ (J Z (cn:Int))).set ⟨x,4,none⟩ (J Z 0)).kept (by omega) (an _ (.cells #[] 2)));go_wp2_with (at_builtin;refine gz _ rfl _ _ rfl (x+1) w1.heap.size rfl (yy HN) x ir er ids rfl (yy HE) (yy I2) hk6 ?d1 ?_)
  case d1=>simp;omega
  intro v' w3 ho hg;obtain⟨av,cv,rfl⟩:=gu ho;have A3:=yz ((yy A2).grown hg (fun e=>by have:=Option.some.inj e;omega));have F3:=yz ((yy F2).grown (yy A2).lt hg (fun e=>by have:=Option.some.inj e;omega));have G3:=yz (Fx (yy HG2) hg (Nat.le_refl _));have O3:=yz ho;clear ho hg c0 c1 c2 c3 c4 f2 f3 f4 HN HG2 I2 A2 F2 hz;obtain⟨c0,c1,c2,c3,c4⟩:=yy A3;have f2:=yy F3 2;have f4:=yy F3 4;go_wp2_with fail;refine bodyPost_ret (results_none rfl _ _ _) rfl ?_;have G4:=ts (ts (yy G3) 2 (.slice av ids.length cv)) 4 (J Z 1);refine⟨⟨_,rfl⟩,?_,iY (dj (yy B1)) G4⟩;rw[yy HF,yy HO];exact Ap (yy S1) G4 (Ao (yy A3) (.slice av ids.length cv) 1) (pX (pX (yy O3) _ _) _ _) (((yy F3).set _ _).set _ _)
 ·obtain rfl:cn=ct:=by omega
  have HO:Hid (bM ⟨bst,cn,mn⟩ ids=⟨ids,cn,mn+1⟩):=yz (by unfold bM;dsimp only;rw[yy HCN,if_neg hgt,if_pos rfl]);have HMN:=yz (show (mn:Int)+1≤100000000 by omega);clear hgt hp hmany;have hk6:ids.length≤6:=by omega
  have HE:=yz he;have HKM:Hid (S.length=ids.length):=yz (by omega);clear h2 hf hs hd a1 a2 c0 c1 c2 c3 c4 hI he;rw[yy HKM]at r1;go_enter Tryz.func80,Tryz.ntmps80;go_wp2_with fail;refine dg ?_;repeat (go_big_quiet_step (fail))
  refine dv fun dq osq=>?_;have hx:=below_regrown w dq osq;generalize grow (redrawn w dq) osq=w1 at hx ⊢;have S1:=ap HS hx;have I1:=yz ((yy HI).grown (dj hx));have B1:=yz hx;clear hx r1 r3 HS HI;obtain⟨⟨v,h1,h2⟩,hf,hs,hd,a1,a2⟩:=yy S1;dsimp only at h1;have H1:=yz h1;have HFr:=yz hf;have hxl:=h1.lt;obtain⟨c0,c1,c2,c3,c4⟩:=h1;rw[yy HKM]at c1;have f2:=hf 2;have f3:=hf 3;have f4:=hf 4;clear hf hs hd a1 a2 h2;have HN:Hid ((w1.alloc (.cells #[] 2)).ownsRow (x+1) 2 1 (.slice (some ⟨w1.heap.size,0,none⟩) 0 0) 0 []):=yz (jB w1 (x+1) (by omega));have HG2:Hid (w1.grownBy (w1.alloc (.cells #[] 2)) (some x)):=yz (zY (ix w1 (some x)) _);have I2:=yz ((yy I1).grown (yy HG2));have A2:=yz ((yy H1).kept (an _ (.cells #[] 2)));have F2:=yz ((yy HFr).kept hxl (an _ (.cells #[] 2)));go_wp2_with (at_builtin;refine gz _ rfl _ _ rfl (x+1) w1.heap.size rfl (yy HN) x ir er ids rfl (yy HE) (yy I2) hk6 ?d1 ?_)
  case d1=>simp;omega
  intro v' w3 ho hg;obtain⟨av,cv,rfl⟩:=gu ho;have A3:=yz ((yy A2).grown hg (fun e=>by have:=Option.some.inj e;omega));have F3:=yz ((yy F2).grown (yy A2).lt hg (fun e=>by have:=Option.some.inj e;omega));have G3:=yz (Fx (yy HG2) hg (Nat.le_refl _));have O3:=yz ho;clear ho hg c0 c1 c2 c3 c4 f2 f3 f4 HN HG2 I2 A2 F2;obtain⟨c0,c1,c2,c3,c4⟩:=yy A3;have hmn:=yy HMN;have hmn0:(0:Int)≤(mn:Int):=by omega
  generalize hmi:(mn:Int)=mi at *;have f2:=yy F3 2;have f4:=yy F3 4;go_wp2_with fail;subst hmi;refine bodyPost_ret (results_none rfl _ _ _) rfl ?_;have G4:=ts (ts (yy G3) 2 (.slice av ids.length cv)) 4 (J Z ((mn:Int)+1));refine⟨⟨_,rfl⟩,?_,iY (dj (yy B1)) G4⟩;rw[yy HF,yy HO];exact Ap (yy S1) G4 (Ao (yy A3) (.slice av ids.length cv) ((mn:Int)+1)) (pX (pX (yy O3) _ _) _ _) (((yy F3).set _ _).set _ _)
end
section
open Go.RowKit Go.Sort
theorem Bf(ids:List Int)(a:Int):fH ids ++ [.int .i64 a]=fH (ids ++ [a]):=by unfold fH;rw[List.map_append];rfl
variable {ids:List Int} {xs:List Value} {cap:Nat} {w:World}
theorem Ab{B x:Nat}{a:Option Addr}(h:w.ownsRow B 2 1 (.slice a ids.length cap) ids.length (fH ids))(hx:x<B):lP w x a ids:=by
 rcases h.2 with ⟨h1,h0⟩ | ⟨g,c',cur,e,hb,hg,hnc,hcm,hcs,htake⟩
 ·injection h1 with h1;exact .inl ⟨List.eq_nil_of_length_eq_zero h0,h1⟩
 ·injection e with e1;refine .inr ⟨g,e1,by omega,(Array.getElem?_eq_some_iff.1 hg).1,fun i hi=>?_⟩;rw[cell_of_row w g i cur _ _ hg]
  have e4:cur[i]? = (fH ids)[i]?:=by
   rw[←htake,List.getElem?_take,if_pos (by omega)];simp
  rw[e4];unfold fH;rw[List.getElem?_map,List.getElem?_eq_getElem hi,List.getD_eq_getElem?_getD,List.getElem?_eq_getElem hi];rfl
theorem xF{B n:Nat}{a:Option Addr}(h:w.ownsRow B 2 1 (.slice a n cap) n xs)(ha:a=none):cap=0:=by
 rcases h.2 with ⟨h1,h0⟩ | ⟨g,c',cur,e,_⟩
 ·injection h1
 ·injection e with e1;rw[ha]at e1;cases e1
theorem DB{B n:Nat}{v:Value}(h:w.ownsRow B 2 1 v n xs)(g:Nat)(e:v.ownBlock=some g):B≤g:=by
 rcases h.2 with ⟨h1,_⟩ | ⟨g',c',cur,e',hb,_⟩
 ·rw[h1]at e;cases e
 ·rw[e']at e;simp[Value.ownBlock]at e;omega
theorem ld(w:World){ops:Array Oper}{rest:List Oper}{o:Oper}{a:Act}{Q:Exit→Act→World→Prop}(hgd:o.guard=none)(s x:Operand)
  (ho:o.op=.call { callee:=.builtin .append,args:=#[s,x],argTypes:=#[81,81] })
  (base:Nat) (v:Value) (ids:List Int) (hs:a.eval s=v) (hown:w.ownsRow base 2 1 v ids.length (fH ids)) (g:Nat) (z:Int) (hx:a.eval x=.slice (some ⟨g,0,none⟩) 1 1) (hc:w.cell? ⟨g,0,none⟩=some (.int .i64 z)) (hk:ids.length≤6) (hbase:base≤w.heap.size)
  (h:∀v' w',w'.ownsRow base 2 1 v' (ids ++ [z]).length (fH (ids ++ [z]))→w.grownBy w' v.ownBlock→wpList Tryz.prog ops Q rest (a.put o.dst v') w'):wpList Tryz.prog ops Q (o :: rest) a w:=by
 obtain⟨i0,hinf,hz0,hz1,hz2⟩:=info_parts kN;have hm:7≤maxLen:=by decide +kernel
 refine wpList_append_own w hgd s x 81 ho base 2 i0 (.int .i64 0) 1 8 Tryz.underlying81 hinf hz0 hz1 hz2 rfl (by decide) v ids.length (fH ids) hs hown ⟨g,0,none⟩ 1 1 [.int .i64 z] hx rfl ?_ (fun u hu=>by rw[List.mem_singleton.1 hu];rfl) (by omega) (by omega) hbase ?_
 ·intro j u hj
  match j,hj with
  | 0,hj=>
   obtain rfl:Value.int .i64 z=u:=by simpa using hj
   have hA:(⟨g,0,none⟩:Addr).add 0=⟨g,0,none⟩:=by unfold Addr.add;split<;>simp_all
   rw[hA];exact hc
  | j+1,hj=>simp at hj
 ·intro v' w' h2 h3 _;rw[Bf]at h2;exact h v' w' (by rw[List.length_append];exact h2) h3
theorem rB{L:List St}{a:Int}(h:vu L ids)(ha:a≠0→aU (atV L L.length a).1 (atV L L.length a).2.1 (atV L L.length a).2.2=true):vu L (ids ++ [a]):=by
 intro i hi h0;rw[List.length_append,List.length_singleton]at hi;by_cases e:i<ids.length
 ·have e1:(ids ++ [a]).getD i 0=ids.getD i 0:=by rw[List.getD_eq_getElem?_getD,List.getD_eq_getElem?_getD,List.getElem?_append_left e]
  rw[e1]at h0 ⊢;exact h i e h0
 ·have e1:(ids ++ [a]).getD i 0=a:=by
   rw[List.getD_eq_getElem?_getD,List.getElem?_append_right (by omega),show i-ids.length=0 by omega];rfl
  rw[e1]at h0 ⊢;exact ha h0
theorem yG(F:List Int→Int→Bool)(A:List Int):∀(r:Nat) (ids:List Int) (s:SeN),s.count≤6→ids.length+r≤6→(eI F A r ids s).count≤6:=by
 intro r ids s h1 h2;rw[jx];have hall:∀l∈eN F A r ids,aY l≤6:=fun l hl=>by have:=mO F A r ids l hl;have:=lh ids;omega
 generalize eN F A r ids=M at hall
 induction M generalizing s with
 | nil=>exact h1
 | cons l M ih=>
  rw[List.foldl_cons];refine ih (bM s l) ?_ (fun x hx=>hall x (by simp[hx]));have h3:=vH s l;have h4:=hall l (by simp);omega
theorem qX(F:List Int→Int→Bool)(A:List Int)(r:Nat)(ids:List Int)(s:SeN)(h1:s.count≤6)(h2:ids.length+1+r≤6):∀i,i≤A.length→(fL F A r ids s i).count≤6
 | 0,_=>h1
 | i+1,h=>by
  rw[kh F A r ids s (by omega)];have h3:=qX F A r ids s h1 h2 i (by omega);split
  ·exact yG F A r _ _ h3 (by rw[List.length_append,List.length_singleton];omega)
  ·exact h3
end
end Go.Proofs.YtdchjcadhlkpfaaGreatDoor
