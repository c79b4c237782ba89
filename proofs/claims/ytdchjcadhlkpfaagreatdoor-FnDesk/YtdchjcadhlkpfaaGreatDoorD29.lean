/- Several texts in one: TfB. -/
import Derived.Test.YtdchjcadhlkpfaaGreatDoorD27
import Derived.Test.YtdchjcadhlkpfaaGreatDoorD28
namespace Go.Proofs.YtdchjcadhlkpfaaGreatDoor
set_option linter.unusedVariables false
set_option linter.unusedSimpArgs false
set_option maxRecDepth 100000
set_option maxHeartbeats 8000000
section
open Go.Value renaming int → J
open Go.IntKind renaming i64 → Z
open Go.RowKit Go.Sort
def iL(L:List St)(S:List D3)(ids:List Int)(t:T4)(n:Nat):Prop:=∀j,j<n→(decide (ids.getD j 0=0) || dT t (bW L S ids j))=true
theorem sJ{L:List St}{S:List D3}{ids:List Int}{t:T4}{n:Nat}(h:iL L S ids t n)(h1:(decide (ids.getD n 0=0) || dT t (bW L S ids n))=true):iL L S ids t (n+1):=fun l hl=>by
 by_cases e:l=n
 ·rw[e];exact h1
 ·exact h l (by omega)
theorem sk(L:List St)(S:List D3)(ids:List Int)(t:T4)(k:Nat)(ar br ir:Option Addr)(cr dr er:Nat)(w:World)(hk6:k≤6)(hn:L.length≤12)(ht:aD t.1 t.2.1 t.2.2.1 t.2.2.2=true)(hS:aZ w ar L L.length)(hD:dh w br S k)(hI:hU w ir ids k)
  (hids:∀i,i<k→ids.getD i 0≠0→aU (atV L L.length (ids.getD i 0)).1 (atV L L.length (ids.getD i 0)).2.1 (atV L L.length (ids.getD i 0)).2.2=true∧jI (vA S i)=true) :
  Calls Tryz.prog 128 #[.slice ar L.length cr,.slice br k dr,.slice ir k er,.agg #[J Z t.1,J Z t.2.1,J Z t.2.2.1,J Z t.2.2.2]] w fun e w'=>e=.returned (.bool (iw L S ids t k))∧Below w.heap.size w w':=by
 have cA:=yz (fun (W:World) (q:Int) hW=>oE L L.length q ar cr W (by omega) hW);have HNO:Hid (∀i,i<k→(decide (ids.getD i 0=0) || dT t (bW L S ids i))=false→iw L S ids t k=false):=yz (fun i hi h=>zI hi h);have HYE:Hid (iL L S ids t k→iw L S ids t k=true):=yz (fun h=>yi h);have HST:Hid (∀n,iL L S ids t n→(decide (ids.getD n 0=0) || dT t (bW L S ids n))=true→iL L S ids t (n+1)):=yz (fun n h h1=>sJ h h1);have H0:Hid (iL L S ids t 0):=yz (fun j hj=>absurd hj (Nat.not_lt_zero _));have HBR:Hid (∀i,dT t (bW L S ids i)=bY (vA S i) (apD t.1 t.2.1 t.2.2.1 t.2.2.2 (atV L L.length (ids.getD i 0)))):=yz (fun i=>rfl);have HDS:=yz hids;have HT:=yz ht;have HS:=yz hS;have HD:=yz hD;clear hS hD hids ht;generalize iw L S ids t k=R at *;generalize iL L S ids t=TT at *;generalize dT t=br' at *;obtain⟨t1,t2,t3,t4⟩:=t;simp only at HT HBR ⊢;generalize L.length=n at *;have V0:=yz (aP w t1 t2 t3 t4 43);have B0:=yz (an w (.cells #[J Z t1,J Z t2,J Z t3,J Z t4] 43));rcases hI with rfl | ⟨ib,io,rfl,hib,hic⟩
 ·have HY:=yz (yy HYE (yy H0));go_enter Tryz.func128,Tryz.ntmps128;go_wp2_with fail;refine wp_loop_rounds 1 ?_;rw[rounds_succ];go_wp2_with fail;go_ret;exact⟨by rw[yy HY];rfl,yy B0⟩
 have HIC:=yz hic;clear hic;go_enter Tryz.func128,Tryz.ntmps128;go_wp2_with fail;go_loopw [9] (fun kk wr=>∃i:Nat,i≤k∧kk=J Z i∧Hid (TT i)∧Hid (aJ wr w.heap.size t1 t2 t3 t4)∧Hid (Below w.heap.size w wr)) (fun kk _=>k-(intOf kk).toNat)
 case atStart=>exact⟨0,by omega,rfl,H0,V0,B0⟩
 case round=>
  clear V0 B0;obtain⟨i,hi,rfl,HF,HV,HB⟩:=hrel;by_cases hik:i<k
  ·have hik2:(i:Int)<(k:Int):=by omega
   have ci:wr.cell? ⟨ib,io+i,none⟩=some (J Z (ids.getD i 0)):=by rw[(yy HB).cell (p:=⟨ib,io+i,none⟩) hib];exact yy HIC i hik
   have HSTi:=yz (yy HST i (yy HF));have HNOi:=yz (yy HNO i hik);have hds:=yy HDS i hik;rw[yy HBR i]at HSTi HNOi;generalize ids.getD i 0=x at *;by_cases hx0:x=0
   ·subst hx0;have HF2:=yz (yy HSTi rfl);have ri:=cell_regrown ci;clear ci;have hnz:((0:Int)==0)=true:=rfl;have hnz2:decide ((0:Int)≠0)=false:=by decide
    go_wp2_with fail;refine dg ?_;repeat (go_big_quiet_step (fail))
    refine dv fun dq osq=>?_;have hx:=below_regrown wr dq osq;have HB5:=ax HB hx;have HV5:=yz ((yy HV).kept (yy HV).lt hx);generalize grow (redrawn wr dq) osq=W5 at hx HB5 HV5 ⊢;clear hx ri HB HV;go_wp2_with fail;go_roundw
    case rel=>exact⟨i+1,by omega,by go_num,HF2,HV5,HB5⟩
    case measure=>simp[intOf]<;>omega
   have hx0':(x==0)=false:=by simp[hx0]
   have hx1':(x != 0)=true:=by simp[hx0]
   obtain⟨hsm,hwd⟩:=hds hx0;rw[decide_eq_false hx0,Bool.false_or]at HSTi HNOi;have cAx:=yz (fun (W:World) hW=>yy cA W x hW);rcases yy HD with h | ⟨bb,bo,rfl,hbb,hbc⟩
   ·omega
   have hsp:=(hbc i hik).kept hbb (yy HB);clear hbc;generalize vA S i=sv at *;generalize atV L n x=q at *;have cP:=yz (fun W=>kQ t1 t2 t3 t4 q W (yy HT) hsm);have cQ:=yz (fun W=>kP (apD t1 t2 t3 t4 q) sv W (qk (yy HT) hsm) (oe hwd));clear hds hsm hwd;generalize bY sv (apD t1 t2 t3 t4 q)=sm at *;generalize apD t1 t2 t3 t4 q=r at *;obtain⟨q1,q2,q3⟩:=q;obtain⟨r1,r2,r3⟩:=r;obtain⟨v1,v2,v3⟩:=sv;unfold vQ at cAx;simp only at cAx cP cQ;obtain⟨c0,c1,c2⟩:=hsp;simp only at c0 c1 c2;obtain⟨y0,y1,y2,y3⟩:=yy HV;have ri:=cell_regrown ci;have rc0:=cell_regrown c0;have rc1:=cell_regrown c1;have rc2:=cell_regrown c2;have ry0:=cell_regrown y0;have ry1:=cell_regrown y1;have ry2:=cell_regrown y2;have ry3:=cell_regrown y3;clear ci c0 c1 c2 y0 y1 y2 y3;have HS1:=ap HS (yy HB);go_wp2_with fail;refine dg ?_;repeat (go_big_quiet_step (first | (with_reducible exact Calls.regrown_of (yy cAx _ ((yy HS1).kept (below_regrown _ _ _)))) | (with_reducible exact aO cP) | (with_reducible exact aO cQ)))
   refine dv fun dq osq=>?_;have hx:=below_regrown wr dq osq;have HB5:=ax HB hx;have HV5:=yz ((yy HV).kept (yy HV).lt hx);generalize grow (redrawn wr dq) osq=W5 at hx HB5 HV5 ⊢;clear hx ri rc0 rc1 rc2 ry0 ry1 ry2 ry3 cAx cP cQ HB HV HS1;cases sm
   ·have HN:=yz (yy HNOi rfl);go_wp2_with fail;go_ret;exact⟨by rw[yy HN];rfl,yy HB5⟩
   ·have HF2:=yz (yy HSTi rfl);go_wp2_with fail;go_roundw
    case rel=>exact⟨i+1,by omega,by go_num,HF2,HV5,HB5⟩
    case measure=>simp[intOf]<;>omega
  ·have hik':i=k:=by omega
   subst hik';have HY:=yz (yy HYE (yy HF));go_wp2_with fail;go_ret;exact⟨by rw[yy HY];rfl,yy HB⟩
def un(ids:List Int):Nat→Nat
 | 0=>0
 | k+1=>un ids k+if ids.getD k 0≠0 then 1 else 0
theorem zQ(L:List St)(S:List D3)(ids:List Int):∀k,un ids k=(az L S ids k).length
 | 0=>rfl
 | k+1=>by
  have ih:=zQ L S ids k;show un ids k+(if ids.getD k 0≠0 then 1 else 0)=_;rw[vp,ih]
theorem zR(ids:List Int):∀k,un ids k≤k
 | 0=>Nat.le_refl _
 | k+1=>by
  have ih:=zR ids k;show un ids k+(if ids.getD k 0≠0 then 1 else 0)≤k+1;split<;>omega
theorem yT(L:List St)(S:List D3)(ids:List Int)(ar br ir:Option Addr)(cr dr er:Nat)(w:World)(hN:bL L S ids=true)(hS:aZ w ar L L.length)(hD:dh w br S S.length)(hI:hU w ir ids ids.length):
  Calls Tryz.prog 101 #[.slice ar L.length cr,.slice br S.length dr,.slice ir ids.length er] w fun e w'=>e=.returned (outV (if (az L S ids ids.length).length<2 then ((0,0,0,0),10) else fF (az L S ids ids.length) (aB 625)))∧Below w.heap.size w w':=by
 obtain⟨g1,g2,g3,_⟩:=ge hN;have hm6:=(bS g2).1;have hn12:=(cg g1).1
 have cU:Hid (∀(t:T4) (W:World),aD t.1 t.2.1 t.2.2.1 t.2.2.2=true→aZ W ar L L.length→dh W br S ids.length→hU W ir ids ids.length→Calls Tryz.prog 128 #[.slice ar L.length cr,.slice br ids.length dr,.slice ir ids.length er,.agg #[J Z t.1,J Z t.2.1,J Z t.2.2.1,J Z t.2.2.2]] W fun e w'=>e=.returned (.bool (dK (az L S ids ids.length) t))∧Below W.heap.size W w'):=yz (fun t W ht h1 h2 h3=>by
  rw[←BZ]
  exact sk L S ids t ids.length ar br ir cr dr er W (by omega) hn12 ht h1 h2 h3 (fun i hi h0=>zh hN hi h0))
 have HCE:=yz (zQ L S ids ids.length)
 have cT:Hid (∀W:World,Calls Tryz.prog 127 #[] W fun e w'=>∃g c,e=.returned (.slice (some ⟨g,0,none⟩) (aB 625).length c)∧kz w' g (aB 625)∧Below W.heap.size W w'):=yz (fun W=>(sH W).mono fun e w' h=>by
  obtain⟨⟨v,he,ho⟩,hb⟩:=h;obtain⟨g,c,rfl,hg,ht⟩:=ue ho rU
  exact⟨g,c,he,ht,hb⟩)
 have HTR:Hid (∀k,k<(aB 625).length→aD (tA (aB 625) k).1 (tA (aB 625) k).2.1 (tA (aB 625) k).2.2.1 (tA (aB 625) k).2.2.2=true):=yz (fun k hk=>la hk);have hTL:=lL 625;have HS:=yz hS;have HD:=yz hD;clear hS hD hN g1 g2;rw[←g3]at HD hm6;rw[←g3];clear g3;generalize az L S ids ids.length=A at *;have HF1:Hid (∀k,k<(aB 625).length→(∀j,j<k→dK A (tA (aB 625) j)=false)→dK A (tA (aB 625) k)=true→fF A (aB 625)=(tA (aB 625) k,0)):=yz (fun k hk h h1=>ww hk h h1);have HF2:Hid ((∀j,j<(aB 625).length→dK A (tA (aB 625) j)=false)→fF A (aB 625)=((0,0,0,0),6)):=yz qy;generalize aB 625=T at *;generalize hlt:T.length=tn at *;have HTL:=yz hlt;clear hlt;generalize L.length=n at *;generalize A.length=al at *;obtain⟨RV,hRV⟩:∃r,r=(if al<2 then ((0,0,0,0),10) else fF A T):=⟨_,rfl⟩
 rw[←hRV];have HRA:Hid (al<2→RV=((0,0,0,0),10)):=yz (fun h=>by rw[hRV,if_pos h]);have HRB:Hid (¬al<2→RV=fF A T):=yz (fun h=>by rw[hRV,if_neg h]);clear hRV;have HI:=yz hI;clear hI;generalize ids.length=k at *;have R0:=yz (aq w [J Z 0,J Z 0,J Z 0,J Z 0,J Z 0] 108);have B0:=yz (an w (.cells #[J Z 0,J Z 0,J Z 0,J Z 0,J Z 0] 108));go_enter Tryz.func101,Tryz.ntmps101;go_wp2_with fail;generalize w.alloc (.cells #[J Z 0,J Z 0,J Z 0,J Z 0,J Z 0] 108)=W0 at R0 B0 ⊢;go_loopw [7,8] (fun c kk wr=>∃i:Nat,i≤k∧kk=J Z i∧c=J Z (un ids i:Int)∧wr=W0) (fun _ kk _=>k-(intOf kk).toNat)
 case atStart=>exact⟨0,by omega,rfl,rfl,rfl⟩
 case round=>
  obtain⟨i,hi,rfl,rfl,rfl⟩:=hrel;by_cases hik:i<k
  ·have hik2:(i:Int)<(k:Int):=by omega
   rcases yy HI with h | ⟨ib,io,rfl,hib,hic⟩
   ·omega
   have ci:wr.cell? ⟨ib,io+i,none⟩=some (J Z (ids.getD i 0)):=by rw[(yy B0).cell (p:=⟨ib,io+i,none⟩) hib];exact hic i hik
   clear hic;have HCN:Hid (un ids (i+1)=un ids i+if ids.getD i 0≠0 then 1 else 0):=yz rfl;have hcl:=zR ids i;generalize ids.getD i 0=x at *;generalize hci:un ids i=ct at *;clear hci;by_cases hx0:x=0
   ·subst hx0;rw[if_neg (by simp)]at HCN;go_wp2_with fail;go_roundw
    case rel=>exact⟨i+1,by omega,by go_num,by rw[yy HCN];rfl,by first | rfl | trivial⟩
    case measure=>simp[intOf]<;>omega
   ·have hx0':(x==0)=false:=by simp[hx0]
    rw[if_pos hx0]at HCN;go_wp2_with fail;go_roundw
    case rel=>exact⟨i+1,by omega,by go_num,by rw[yy HCN];go_num,by first | rfl | trivial⟩
    case measure=>simp[intOf]<;>omega
  ·have hik':i=k:=by omega
   subst hik';rw[yy HCE];clear HCE;by_cases h2:al<2
   ·have h2':(al:Int)<2:=by omega
    have HRV:=yz (yy HRA h2);obtain⟨r0,r1,r2,r3,r4⟩:=mS (yy R0);have f0:=ul (yy R0);go_wp2_with fail;exact bodyPost_ret (v:=.agg #[J Z 0,J Z 0,J Z 0,J Z 0,J Z 10]) (by simp[results,Tryz.results101,go_sem,r0,r1,r2,r3,r4]) rfl ⟨by rw[yy HRV];rfl,eY (yy B0) (Nat.le_refl _) _ _ _ _ _⟩
   have h2':¬(al:Int)<2:=by omega
   have HR:=yz (yy HRB h2);clear HRA HRB h2;go_wp2_with fail;refine(yy cT _).mono ?_;rintro e W3 ⟨g,c3,rfl,ht,hx⟩;have HT3:=yz ht;have HR3:=ap R0 hx;have HB3:=ax B0 hx;clear ht hx R0 B0 cT;go_wp2_with fail;go_loopw [10] (fun kk wr=>∃j:Nat,j≤tn∧kk=J Z j∧Hid (∀l,l<j→dK A (tA T l)=false)∧Hid (kz wr g T)∧Hid (Blk wr w.heap.size [J Z 0,J Z 0,J Z 0,J Z 0,J Z 0] 108)∧Hid (Below w.heap.size w wr)) (fun kk _=>tn-(intOf kk).toNat)
   case atStart=>exact⟨0,by omega,rfl,yz (fun j hj=>absurd hj (Nat.not_lt_zero _)),HT3,HR3,HB3⟩
   case round=>
    clear HT3 HR3 HB3;obtain⟨j,hj,rfl,HF,HT,HRB,HB⟩:=hrel;by_cases hjn:j<tn
    ·have hjn2:(j:Int)<(tn:Int):=by omega
     obtain⟨c0,c1,c2',c3'⟩:=(yy HT).2 j (by rw[yy HTL];exact hjn);have htr:=yy HTR j hjn;have HF1j:=yz (yy HF1 j hjn (yy HF));obtain⟨t,ht⟩:∃t,tA T j=t:=⟨_,rfl⟩
     rw[ht]at c0 c1 c2' c3' htr HF1j;have HTE:=yz ht;clear ht;have cEt:=yz (fun W h1 h2 h3=>yy cU t W htr h1 h2 h3);clear htr;have HEX:Hid (dK A (tA T j)=dK A t):=yz (by rw[yy HTE]);generalize dK A t=ev at *;obtain⟨t1,t2,t3,t4⟩:=t;simp only at c0 c1 c2' c3' cEt;go_wp2_with fail;refine(yy cEt _ ((yy HS).kept (yy HB)) ((yy HD).kept (yy HB)) ((yy HI).kept (yy HB))).mono ?_;rintro e W5 ⟨rfl,hx⟩;have HT2:=ap HT hx;have HR2:=ap HRB hx;have HB2:=ax HB hx;have x0:=fa c0 hx;have x1:=fa c1 hx;have x2:=fa c2' hx;have x3:=fa c3' hx;clear hx HT HRB HB cEt c0 c1 c2' c3';cases ev
     ·clear x0 x1 x2 x3;go_wp2_with fail;go_roundw
      case rel=>exact⟨j+1,by omega,by go_num,yz (fun l hl=>by
       by_cases e:l=j
       ·rw[e];exact yy HEX
       ·exact yy HF l (by omega)),HT2,HR2,HB2⟩
      case measure=>simp[intOf];omega
     ·have HRV:Hid (RV=((t1,t2,t3,t4),0)):=yz (by rw[yy HR];exact yy HF1j rfl);obtain⟨r0,r1,r2,r3,r4⟩:=mS (yy HR2);have f0:=ul (yy HR2);go_wp2_with fail;exact bodyPost_ret (v:=.agg #[J Z t1,J Z t2,J Z t3,J Z t4,J Z 0]) (by simp[results,Tryz.results101,go_sem,r0,r1,r2,r3,r4]) rfl ⟨by rw[yy HRV];rfl,eY (yy HB2) (Nat.le_refl _) _ _ _ _ _⟩
    ·have hjn':j=tn:=by omega
     subst hjn';have HRV:Hid (RV=((0,0,0,0),6)):=yz (by rw[yy HR];exact yy HF2 (yy HF));obtain⟨r0,r1,r2,r3,r4⟩:=mS (yy HRB);have f0:=ul (yy HRB);go_wp2_with fail;exact bodyPost_ret (v:=.agg #[J Z 0,J Z 0,J Z 0,J Z 0,J Z 6]) (by simp[results,Tryz.results101,go_sem,r0,r1,r2,r3,r4]) rfl ⟨by rw[yy HRV];rfl,eY (yy HB) (Nat.le_refl _) _ _ _ _ _⟩
end
end Go.Proofs.YtdchjcadhlkpfaaGreatDoor
