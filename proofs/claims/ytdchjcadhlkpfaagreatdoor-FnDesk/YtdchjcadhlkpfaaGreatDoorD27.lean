/- Several texts in one: TfA, ModO, Src3. -/
import Derived.Test.YtdchjcadhlkpfaaGreatDoorD12
import Derived.Test.YtdchjcadhlkpfaaGreatDoorD23
namespace Go.Proofs.YtdchjcadhlkpfaaGreatDoor
set_option linter.unusedVariables false
set_option linter.unusedSimpArgs false
set_option maxRecDepth 100000
set_option maxHeartbeats 8000000
section
open Go.Value renaming int → J
open Go.IntKind renaming i64 → Y
open Go.RowKit Go.Sort
theorem uu(A:List Sg)(n:Nat)(t:T4)(a:Option Addr)(c:Nat)(w:World)(hl:A.length=n)(hn:n≤1048576)(ht:aD t.1 t.2.1 t.2.2.1 t.2.2.2=true)(hsm:∀i,i<n→aU (sgA A i).2.2.1 (sgA A i).2.2.2.1 (sgA A i).2.2.2.2=true)(hS:fD w a A n):
  Calls Tryz.prog 205 #[.agg #[J Y t.1,J Y t.2.1,J Y t.2.2.1,J Y t.2.2.2],.slice a n c] w fun e w'=>e=.returned (.bool (dK A t))∧Below w.heap.size w w':=by
 have HNO:Hid (∀i,i<n→dT t (sgA A i)=false→dK A t=false):=yz (fun i hi h=>EC (by omega) h);have HYE:Hid ((∀i,i<n→dT t (sgA A i)=true)→dK A t=true):=yz (fun h=>CI (by rw[hl];exact h));have HSM:=yz hsm;have HT:=yz ht;have HBR:Hid (∀s,dT t s=bY s.1 (apD t.1 t.2.1 t.2.2.1 t.2.2.2 s.2.2)):=yz (fun s=>rfl);clear hl hsm ht;generalize dK A t=R at *;generalize dT t=br at *;obtain⟨t1,t2,t3,t4⟩:=t;simp only at HT HBR ⊢;have V0:=yz (aP w t1 t2 t3 t4 43);have B0:=yz (an w (.cells #[J Y t1,J Y t2,J Y t3,J Y t4] 43));rcases hS with rfl | ⟨b,o,rfl,hb,hc⟩
 ·have HY:=yz (yy HYE (fun i hi=>absurd hi (Nat.not_lt_zero _)));go_enter Tryz.func205,Tryz.ntmps205;go_wp2_with fail;refine wp_loop_rounds 1 ?_;rw[rounds_succ];go_wp2_with fail;go_ret;exact⟨by rw[yy HY];rfl,yy B0⟩
 have HC:=yz hc;clear hc;go_enter Tryz.func205,Tryz.ntmps205;go_wp2_with fail;go_loopw [9] (fun i wr=>∃k:Nat,k≤n∧i=J Y k∧Hid (∀j,j<k→br (sgA A j)=true)∧Hid (Below w.heap.size w wr)∧Hid (aJ wr w.heap.size t1 t2 t3 t4)) (fun i _=>n-(intOf i).toNat)
 case atStart=>exact⟨0,by omega,rfl,yz (fun j hj=>absurd hj (Nat.not_lt_zero _)),B0,V0⟩
 case round=>
  clear B0 V0;obtain⟨k,hk,rfl,HF,HB,HV⟩:=hrel;by_cases hkn:k<n
  ·have hkn2:(k:Int)<(n:Int):=by omega
   have hsmk:=yy HSM k hkn;have HBK:=yz (yy HBR (sgA A k));have HNK:=yz (yy HNO k hkn);obtain⟨s,hs⟩:∃t,sgA A k=t:=⟨_,rfl⟩
   have hst:=((yy HC) k hkn).kept (yy HB);rw[hs]at hst hsmk HBK HNK;have HSE:=yz hs;clear hs;have cA:=yz (fun W=>kA t1 t2 t3 t4 s.2.2 W (yy HT) hsmk);clear hsmk;have Z:=an wr (.cells #[J Y s.1.1,J Y s.1.2.1,J Y s.1.2.2,J Y s.2.1,J Y s.2.2.1,J Y s.2.2.2.1,J Y s.2.2.2.2] 238);have T1:=gw wr s 238;have HB1:=ax HB Z;have HV1:=yz ((yy HV).kept (yy HV).lt Z);clear Z HB HV;generalize apD t1 t2 t3 t4 s.2.2=q at *;obtain⟨q1,q2,q3⟩:=q;obtain⟨⟨b1,b2,b3⟩,b4,b5,b6,b7⟩:=s;have cS:Hid (∀W:World,Calls Tryz.prog 179 #[.agg #[J Y b1,J Y b2,J Y b3],.agg #[J Y q1,J Y q2,J Y q3]] W fun e w'=>e=.returned (.bool (bY (b1,b2,b3) (q1,q2,q3)))∧Below W.heap.size W w'):=yz (fun W=>jf b1 b2 b3 q1 q2 q3 W);simp only at HBK cA T1 HB1 HV1;generalize bY (b1,b2,b3) (q1,q2,q3)=sm at *;obtain⟨c0,c1,c2,c3,c4,c5,c6⟩:=hst;simp only at c0 c1 c2 c3 c4 c5 c6;go_wp2_with fail;clear c0 c1 c2 c3 c4 c5 c6;generalize wr.alloc (.cells #[J Y b1,J Y b2,J Y b3,J Y b4,J Y b5,J Y b6,J Y b7] 238)=W4 at T1 HB1 HV1 ⊢;generalize wr.heap.size=tb at *;obtain⟨x0,x1,x2,x3,x4,x5,x6⟩:=T1;simp only[Nat.zero_add]at x0 x1 x2 x3 x4 x5 x6;obtain⟨y0,y1,y2,y3⟩:=yy HV1;have r0:=cell_regrown x0;have r1:=cell_regrown x1;have r2:=cell_regrown x2;have r4:=cell_regrown x4;have r5:=cell_regrown x5;have r6:=cell_regrown x6;have s0:=cell_regrown y0;have s1:=cell_regrown y1;have s2:=cell_regrown y2;have s3:=cell_regrown y3;clear x0 x1 x2 x3 x4 x5 x6 y0 y1 y2 y3;refine dg ?_;repeat (go_big_quiet_step (with_reducible first | exact aO cA | exact aO cS))
   refine dv fun dq osq=>?_;have hx:=below_regrown W4 dq osq;have HB5:=ax HB1 hx;have HV5:=yz ((yy HV1).kept (yy HV1).lt hx);generalize grow (redrawn W4 dq) osq=W5 at hx HB5 HV5 ⊢;clear hx r0 r1 r2 r4 r5 r6 s0 s1 s2 s3 cA cS HB1 HV1;cases sm
   ·have HN:=yz (yy HNK (yy HBK));go_wp2_with fail;go_ret;exact⟨by rw[yy HN];rfl,yy HB5⟩
   ·have HOK:Hid (br (sgA A k)=true):=yz (by rw[yy HSE];exact yy HBK);go_wp2_with fail;go_roundw
    case rel=>exact⟨k+1,by omega,by go_num,yz (fun l hl=>by
     by_cases e:l=k
     ·rw[e];exact yy HOK
     ·exact yy HF l (by omega)),HB5,HV5⟩
    case measure=>simp[intOf];omega
  ·have hkn':k=n:=by omega
   subst hkn';have HY:=yz (yy HYE (yy HF));go_wp2_with fail;go_ret;exact⟨by rw[yy HY];rfl,yy HB⟩
def outV(r:T4×Int):Value:=.agg #[J Y r.1.1,J Y r.1.2.1,J Y r.1.2.2.1,J Y r.1.2.2.2,J Y r.2]
theorem eY{w w1:World}{b:Nat}(h:Below w.heap.size w w1)(hb:w.heap.size≤b)(x y z u v:Value):Below w.heap.size w (((((w1.setCell ⟨b,0,none⟩ x).setCell ⟨b,1,none⟩ y).setCell ⟨b,2,none⟩ z).setCell ⟨b,3,none⟩ u).setCell ⟨b,4,none⟩ v):=((((h.setCell hb _).setCell hb _).setCell hb _).setCell hb _).setCell hb _
theorem pG(L:List St)(S:List D3)(ids:List Int)(ar br ir:Option Addr)(cr dr er:Nat)(p:Addr)(w:World)(hn:L.length≤1048576)(hcap:L.length≤cr)(hc9:cr≤9223372036854775807)(hn2:S.length≤1048576)(hcap2:S.length≤dr)(hd9:dr≤9223372036854775807)(hn3:ids.length≤1048576)(hS:aZ w ar L L.length)(hD:dh w br S S.length)(hI:hU w ir ids ids.length)(hE:bE p w):
  Calls Tryz.prog 191 #[.slice ar L.length cr,.slice br S.length dr,.slice ir ids.length er] w fun e w'=>e=.returned (outV (jw L S ids))∧Below w.heap.size w w':=by
 have cN:=yz (fun (W:World) h1 h2 h3 h4=>se L S ids ar br ir cr dr er p W hn hcap hc9 hn2 hcap2 hd9 hn3 h1 h2 h3 h4)
 have cO:Hid (bL L S ids=true→∀W:World,aZ W ar L L.length→dh W br S S.length→hU W ir ids ids.length→bE p W→Calls Tryz.prog 203 #[.slice ar L.length cr,.slice br S.length dr,.slice ir ids.length er] W fun e w'=>(∃v,e=.returned v∧w'.ownsRow W.heap.size 238 7 v (az L S ids ids.length).length (dp (az L S ids ids.length)))∧Below W.heap.size W w'):=yz (fun h W h1 h2 h3 h4=>by
  obtain⟨g1,g2,g3,_⟩:=ge h
  exact nM L S ids ids.length ar br ir cr dr er p W g1 hn hcap hc9 (bS g2).1 g3 h1 h2 h3 h4)
 have HSM:Hid (bL L S ids=true→∀i,i<(az L S ids ids.length).length→aU (sgA (az L S ids ids.length) i).2.2.1 (sgA (az L S ids ids.length) i).2.2.2.1 (sgA (az L S ids ids.length) i).2.2.2.2=true):=yz (fun h i hi=>xW h hi)
 have HAL:Hid (bL L S ids=true→(az L S ids ids.length).length≤6):=yz (fun h=>by
  obtain⟨g1,g2,g3,_⟩:=ge h;have:=iG L S ids ids.length;have:=(bS g2).1
  omega)
 have H1:Hid (400<L.length∨400<S.length∨400<ids.length→jw L S ids=((0,0,0,0),2)):=yz CO;have H2:Hid (¬(400<L.length∨400<S.length∨400<ids.length)→bL L S ids=false→jw L S ids=((0,0,0,0),1)):=yz CN;have H3:Hid (¬(400<L.length∨400<S.length∨400<ids.length)→bL L S ids=true→(az L S ids ids.length).length<2→jw L S ids=((0,0,0,0),10)):=yz EF;have H4:Hid (¬(400<L.length∨400<S.length∨400<ids.length)→bL L S ids=true→¬(az L S ids ids.length).length<2→jw L S ids=fF (az L S ids ids.length) (aB 625)):=yz AS;have HS:=yz hS;have HD:=yz hD;have HI:=yz hI;have HE:=yz hE;clear hS hD hI hE hcap hc9 hcap2 hd9;generalize jw L S ids=R at *;generalize bL L S ids=nb at *;generalize az L S ids ids.length=A at *;generalize S.length=m at *;generalize ids.length=k at *;generalize L.length=n at *;have R0:=aq w [J Y 0,J Y 0,J Y 0,J Y 0,J Y 0] 108;have B0:=an w (.cells #[J Y 0,J Y 0,J Y 0,J Y 0,J Y 0] 108);by_cases hbig:400<n∨400<m∨400<k
 ·obtain rfl:=yy H1 hbig;have h':400<n∨(¬400<n∧400<m)∨(¬400<n∧¬400<m∧400<k):=by omega
  rcases h' with h | ⟨h,h1⟩ | ⟨h,h1,h2⟩
  ·have g1:decide ((400:Int)<(n:Int))=true:=by simp;omega
   have g2:(400:Int)<(n:Int):=by omega
   go_enter Tryz.func191,Tryz.ntmps191;go_wp2_with fail;exact bodyPost_ret (v:=.agg #[J Y 0,J Y 0,J Y 0,J Y 0,J Y 2]) (by simp[results,Tryz.results191,go_sem]) rfl ⟨rfl,an _ _⟩
  ·have g1:decide ((400:Int)<(n:Int))=false:=by simp;omega
   have g2:¬(400:Int)<(n:Int):=by omega
   have g3:decide ((400:Int)<(m:Int))=true:=by simp;omega
   have g4:(400:Int)<(m:Int):=by omega
   go_enter Tryz.func191,Tryz.ntmps191;go_wp2_with fail;exact bodyPost_ret (v:=.agg #[J Y 0,J Y 0,J Y 0,J Y 0,J Y 2]) (by simp[results,Tryz.results191,go_sem]) rfl ⟨rfl,an _ _⟩
  ·have g1:decide ((400:Int)<(n:Int))=false:=by simp;omega
   have g2:¬(400:Int)<(n:Int):=by omega
   have g3:decide ((400:Int)<(m:Int))=false:=by simp;omega
   have g4:¬(400:Int)<(m:Int):=by omega
   have g5:decide ((400:Int)<(k:Int))=true:=by simp;omega
   have g6:(400:Int)<(k:Int):=by omega
   go_enter Tryz.func191,Tryz.ntmps191;go_wp2_with fail;exact bodyPost_ret (v:=.agg #[J Y 0,J Y 0,J Y 0,J Y 0,J Y 2]) (by simp[results,Tryz.results191,go_sem]) rfl ⟨rfl,an _ _⟩
 have g1:decide ((400:Int)<(n:Int))=false:=by simp;omega
 have g2:¬(400:Int)<(n:Int):=by omega
 have g3:decide ((400:Int)<(m:Int))=false:=by simp;omega
 have g4:¬(400:Int)<(m:Int):=by omega
 have g5:decide ((400:Int)<(k:Int))=false:=by simp;omega
 have g6:¬(400:Int)<(k:Int):=by omega
 go_enter Tryz.func191,Tryz.ntmps191;go_wp2_with fail;generalize w.alloc (.cells #[J Y 0,J Y 0,J Y 0,J Y 0,J Y 0] 108)=W0 at R0 B0 ⊢;refine(yy cN _ ((yy HS).kept B0) ((yy HD).kept B0) ((yy HI).kept B0) ((yy HE).kept B0)).mono ?_;rintro e W1 ⟨rfl,hx⟩;have R1:=R0.kept hx;have B1:=ak B0 hx;clear hx R0 B0;cases nb
 ·obtain rfl:=yy H2 hbig rfl;obtain⟨r0,r1,r2,r3,r4⟩:=mS (R1);have f0:=ul (R1);go_wp2_with fail;exact bodyPost_ret (v:=.agg #[J Y 0,J Y 0,J Y 0,J Y 0,J Y 1]) (by simp[results,Tryz.results191,go_sem,r0,r1,r2,r3,r4]) rfl ⟨rfl,eY B1 (Nat.le_refl _) _ _ _ _ _⟩
 have cO':=yz (yy cO rfl);have HSM':=yz (yy HSM rfl);have hal6:=yy HAL rfl;have H3':=yz (yy H3 hbig rfl);have H4':=yz (yy H4 hbig rfl);clear cO HSM HAL H1 H2 H3 H4 cN hbig g1 g2 g3 g4 g5 g6;go_wp2_with fail;refine(yy cO' _ ((yy HS).kept B1) ((yy HD).kept B1) ((yy HI).kept B1) ((yy HE).kept B1)).mono ?_;rintro e W2 ⟨⟨v2,rfl,ho⟩,hx⟩;obtain⟨a2,c2,rfl⟩:=Dt ho;have HSG:=yz (mC ho);have R2:=R1.kept hx;have B2:=ak B1 hx;clear ho hx R1 B1 cO';by_cases h2:A.length<2
 ·obtain rfl:=yy H3' h2;have h2':(A.length:Int)<2:=by omega
  obtain⟨r0,r1,r2,r3,r4⟩:=mS (R2);have f0:=ul (R2);go_wp2_with fail;exact bodyPost_ret (v:=.agg #[J Y 0,J Y 0,J Y 0,J Y 0,J Y 10]) (by simp[results,Tryz.results191,go_sem,r0,r1,r2,r3,r4]) rfl ⟨rfl,eY B2 (Nat.le_refl _) _ _ _ _ _⟩
 have h2':¬(A.length:Int)<2:=by omega
 have HR:=yz (yy H4' h2)
 have cT:Hid (∀W:World,Calls Tryz.prog 204 #[] W fun e w'=>∃g c,e=.returned (.slice (some ⟨g,0,none⟩) (aB 625).length c)∧kz w' g (aB 625)∧Below W.heap.size W w'):=yz (fun W=>(sh W).mono fun e w' h=>by
  obtain⟨⟨v,he,ho⟩,hb⟩:=h;obtain⟨g,c,rfl,hg,ht⟩:=ue ho rU
  exact⟨g,c,he,ht,hb⟩)
 have HTR:Hid (∀k,k<(aB 625).length→aD (tA (aB 625) k).1 (tA (aB 625) k).2.1 (tA (aB 625) k).2.2.1 (tA (aB 625) k).2.2.2=true):=yz (fun k hk=>la hk);have hTL:=lL 625;have cE:Hid (∀(t:T4) (a:Option Addr) (W:World),aD t.1 t.2.1 t.2.2.1 t.2.2.2=true→fD W a A A.length→Calls Tryz.prog 205 #[.agg #[J Y t.1,J Y t.2.1,J Y t.2.2.1,J Y t.2.2.2],.slice a A.length c2] W fun e w'=>e=.returned (.bool (dK A t))∧Below W.heap.size W w'):=yz (fun t a W ht hs=>uu A A.length t a c2 W rfl (by omega) ht (yy HSM') hs);clear HSM' H3' H4' h2;have HF1:Hid (∀k,k<(aB 625).length→(∀j,j<k→dK A (tA (aB 625) j)=false)→dK A (tA (aB 625) k)=true→fF A (aB 625)=(tA (aB 625) k,0)):=yz (fun k hk h h1=>ww hk h h1);have HF2:Hid ((∀j,j<(aB 625).length→dK A (tA (aB 625) j)=false)→fF A (aB 625)=((0,0,0,0),6)):=yz qy;generalize aB 625=T at *;generalize hlt:T.length=tn at *;have HTL:=yz hlt;clear hlt;generalize A.length=al at *;go_wp2_with fail;refine(yy cT _).mono ?_;rintro e W3 ⟨g,c3,rfl,ht,hx⟩;have HT3:=yz ht;have HS3:=ap HSG hx;have HR3:=yz (R2.kept hx);have HB3:=yz (ak B2 hx);clear ht hx R2 B2 HSG cT;go_wp2_with fail;go_loopw [40] (fun i wr=>∃j:Nat,j≤tn∧i=J Y j∧Hid (∀l,l<j→dK A (tA T l)=false)∧Hid (kz wr g T)∧Hid (fD wr a2 A al)∧Hid (Blk wr w.heap.size [J Y 0,J Y 0,J Y 0,J Y 0,J Y 0] 108)∧Hid (Below w.heap.size w wr)) (fun i _=>tn-(intOf i).toNat)
 case atStart=>exact⟨0,by omega,rfl,yz (fun j hj=>absurd hj (Nat.not_lt_zero _)),HT3,HS3,HR3,HB3⟩
 case round=>
  clear HT3 HS3 HR3 HB3;obtain⟨j,hj,rfl,HF,HT,HS',HRB,HB⟩:=hrel;by_cases hjn:j<tn
  ·have hjn2:(j:Int)<(tn:Int):=by omega
   obtain⟨c0,c1,c2',c3'⟩:=(yy HT).2 j (by rw[yy HTL];exact hjn);have htr:=yy HTR j hjn;have HF1j:=yz (yy HF1 j hjn (yy HF));obtain⟨t,ht⟩:∃t,tA T j=t:=⟨_,rfl⟩
   rw[ht]at c0 c1 c2' c3' htr HF1j;have HTE:=yz ht;clear ht;have cEt:=yz (fun W h=>yy cE t a2 W htr h);clear htr;have HEX:Hid (dK A (tA T j)=dK A t):=yz (by rw[yy HTE]);generalize dK A t=ev at *;obtain⟨t1,t2,t3,t4⟩:=t;simp only at c0 c1 c2' c3' cEt;have Z:=an wr (.cells #[J Y t1,J Y t2,J Y t3,J Y t4] 43);have TA1:=yz (aP wr t1 t2 t3 t4 43);have HT1:=ap HT Z;have HS1:=ap HS' Z;have HR1:=ap HRB Z;have HB1:=ax HB Z;clear Z HT HS' HRB HB;go_wp2_with fail;clear c0 c1 c2' c3';generalize wr.alloc (.cells #[J Y t1,J Y t2,J Y t3,J Y t4] 43)=W4 at TA1 HT1 HS1 HR1 HB1 ⊢;generalize wr.heap.size=tb at *;refine(yy cEt _ (yy HS1)).mono ?_;rintro e W5 ⟨rfl,hx⟩;have TA2:=yz ((yy TA1).kept (yy TA1).lt hx);have HT2:=ap HT1 hx;have HS2:=ap HS1 hx;have HR2:=ap HR1 hx;have HB2:=ax HB1 hx;clear hx TA1 HT1 HS1 HR1 HB1 cEt;cases ev
   ·go_wp2_with fail;go_roundw
    case rel=>exact⟨j+1,by omega,by go_num,yz (fun l hl=>by
     by_cases e:l=j
     ·rw[e];exact yy HEX
     ·exact yy HF l (by omega)),HT2,HS2,HR2,HB2⟩
    case measure=>simp[intOf];omega
   ·have HRV:Hid (R=((t1,t2,t3,t4),0)):=yz (by rw[yy HR];exact yy HF1j rfl);obtain⟨x0,x1,x2,x3⟩:=yy TA2;obtain⟨r0,r1,r2,r3,r4⟩:=mS (yy HR2);have f0:=ul (yy HR2);go_wp2_with fail;exact bodyPost_ret (v:=.agg #[J Y t1,J Y t2,J Y t3,J Y t4,J Y 0]) (by simp[results,Tryz.results191,go_sem,r0,r1,r2,r3,r4]) rfl ⟨by rw[yy HRV];rfl,eY (yy HB2) (Nat.le_refl _) _ _ _ _ _⟩
  ·have hjn':j=tn:=by omega
   subst hjn';have HRV:Hid (R=((0,0,0,0),6)):=yz (by rw[yy HR];exact yy HF2 (yy HF));obtain⟨r0,r1,r2,r3,r4⟩:=mS (yy HRB);have f0:=ul (yy HRB);go_wp2_with fail;exact bodyPost_ret (v:=.agg #[J Y 0,J Y 0,J Y 0,J Y 0,J Y 6]) (by simp[results,Tryz.results191,go_sem,r0,r1,r2,r3,r4]) rfl ⟨by rw[yy HRV];rfl,eY (yy HB) (Nat.le_refl _) _ _ _ _ _⟩
end
section
open Go.Value renaming int → J
open Go.IntKind renaming i64 → Z
open Go.RowKit Go.Sort
def lY(L:List St)(lim:Int):Bool:=bc L&&dX 1 5 lim
def iQ(L:List St)(lim:Int):Tk:=if 400<L.length then fO else if lY L lim=true then ⟨L,lim,0,0,0,0,0,0,0⟩ else fO
def kw(L:List St)(lim:Int):Int:=if 400<L.length then 2 else if lY L lim=true then 0 else 1
theorem Bv(L:List St)(lim:Int):aH ⟨L,lim,0,0,0,0,0,0,0⟩=lY L lim:=by
 unfold lY;cases h1:bc L
 ·exact lH h1
 ·cases h2:dX 1 5 lim
  ·exact lI h2
  ·rw[mG h1 h2 rfl,zf rfl];rfl
theorem xX(L:List St)(lim:Int)(b o c:Nat)(w:World)(hn:L.length≤1048576)(hS:aZ w (some ⟨b,o,none⟩) L L.length):
  Calls Tryz.prog 18 #[.slice (some ⟨b,o,none⟩) L.length c,J Z lim] w fun e w'=>pA w' w.heap.size (iQ L lim) (kw L lim) e∧Below w.heap.size w w':=by
 have B0:=an w (.cells #[.slice none 0 0,J Z 0,J Z 0,J Z 0,J Z 0,J Z 0,J Z 0,J Z 0,J Z 0,J Z 0] 47);have R0:=lG w (.slice none 0 0) 0 0 0 0 0 0 0 0 0 47;have G0:=dS w #[.slice none 0 0,J Z 0,J Z 0,J Z 0,J Z 0,J Z 0,J Z 0,J Z 0,J Z 0,J Z 0] 47;have S0:=hS.kept B0;have hsz:w.heap.size+1≤(w.alloc (.cells #[.slice none 0 0,J Z 0,J Z 0,J Z 0,J Z 0,J Z 0,J Z 0,J Z 0,J Z 0,J Z 0] 47)).heap.size:=by simp
 have cR:=yz (fun W h=>jh L (some ⟨b,o,none⟩) c W hn h);have HB:=yz B0;have HR:=yz R0;have HG:=yz G0;have HS:=yz S0;clear B0 R0 G0 S0 hS;by_cases h4:400<L.length
 ·have h4':(400:Int)<(L.length:Int):=by omega
  have HO1:Hid (iQ L lim=fO):=yz (by unfold iQ;rw[if_pos h4]);have HO2:Hid (kw L lim=2):=yz (by unfold kw;rw[if_pos h4]);clear h4;go_enter Tryz.func18,Tryz.ntmps18;go_wp2_with fail;refine(dZ 2 _).mono ?_;rintro e w2 ⟨rfl,hx⟩;have B2:=ax HB hx;have R2:=ap HR hx;have G2:=yz ((yy HG).kept (yy HR).lt hx);clear hx HB HR HG;obtain⟨⟨r0,r1,r2,r3,r4,r5,r6,r7,r8⟩,r9⟩:=yy R2;have g0:=yy G2 0;have g1:=yy G2 1;have g2:=yy G2 2;have g3:=yy G2 3;have g4:=yy G2 4;have g5:=yy G2 5;have g6:=yy G2 6;have g7:=yy G2 7;have g8:=yy G2 8;have g9:=yy G2 9;go_wp2_with fail;clear r0 r1 r2 r3 r4 r5 r6 r7 r8 r9 g0 g1 g2 g3 g4 g5 g6 g7 g8 g9;refine bodyPost_ret (v:=.agg #[.slice none 0 0,J Z 0,J Z 0,J Z 0,J Z 0,J Z 0,J Z 0,J Z 0,J Z 0,J Z 2]) ?_ rfl ⟨?_,?_⟩
  ·refine nH _ _ w.heap.size _ 0 0 0 0 0 0 0 0 2 rfl ?_;exact bJ (yy R2) _ _ _ _ _ _ _ _ _ _
  ·rw[yy HO1,yy HO2];exact ce _ _ _
  ·iterate 10 (refine aG ?_ (Nat.le_refl w.heap.size) _ _)
   exact yy B2
 have h4':¬(400:Int)<(L.length:Int):=by omega
 go_enter Tryz.func18,Tryz.ntmps18;go_wp2_with fail;refine(yy cR _ (yy HS)).mono ?_;rintro e w1 ⟨rfl,hx⟩;have B1:=ax HB hx;have R1:=ap HR hx;have G1:=yz ((yy HG).kept (yy HR).lt hx);have S1:=ap HS hx;have hsz1:w.heap.size+1≤w1.heap.size:=Nat.le_trans hsz hx.size;clear hx HB HR HG HS hsz cR;have hill:lY L lim=false→Hid (iQ L lim=fO)∧Hid (kw L lim=1):=fun h=>⟨yz (by unfold iQ;rw[if_neg h4,h];rfl),yz (by unfold kw;rw[if_neg h4,h];rfl)⟩
 cases hk:bc L
 ·obtain⟨HO1,HO2⟩:=hill (by unfold lY;rw[hk];rfl);clear hill;go_wp2_with fail;refine(dZ 1 _).mono ?_;rintro e w2 ⟨rfl,hx⟩;have B2:=ax B1 hx;have R2:=ap R1 hx;have G2:=yz ((yy G1).kept (yy R1).lt hx);clear hx B1 R1 G1;obtain⟨⟨r0,r1,r2,r3,r4,r5,r6,r7,r8⟩,r9⟩:=yy R2;have g0:=yy G2 0;have g1:=yy G2 1;have g2:=yy G2 2;have g3:=yy G2 3;have g4:=yy G2 4;have g5:=yy G2 5;have g6:=yy G2 6;have g7:=yy G2 7;have g8:=yy G2 8;have g9:=yy G2 9;go_wp2_with fail;clear r0 r1 r2 r3 r4 r5 r6 r7 r8 r9 g0 g1 g2 g3 g4 g5 g6 g7 g8 g9;refine bodyPost_ret (v:=.agg #[.slice none 0 0,J Z 0,J Z 0,J Z 0,J Z 0,J Z 0,J Z 0,J Z 0,J Z 0,J Z 1]) ?_ rfl ⟨?_,?_⟩
  ·refine nH _ _ w.heap.size _ 0 0 0 0 0 0 0 0 1 rfl ?_;exact bJ (yy R2) _ _ _ _ _ _ _ _ _ _
  ·rw[yy HO1,yy HO2];exact ce _ _ _
  ·iterate 10 (refine aG ?_ (Nat.le_refl w.heap.size) _ _)
   exact yy B2
 go_wp2_with fail;refine(ja lim 1 5 _).mono ?_;rintro e w2 ⟨rfl,hw⟩;rw[hw];clear hw w2;cases hl:dX 1 5 lim
 ·obtain⟨HO1,HO2⟩:=hill (by unfold lY;rw[hk,hl];rfl);clear hill;go_wp2_with fail;refine(dZ 1 _).mono ?_;rintro e w2 ⟨rfl,hx⟩;have B2:=ax B1 hx;have R2:=ap R1 hx;have G2:=yz ((yy G1).kept (yy R1).lt hx);clear hx B1 R1 G1;obtain⟨⟨r0,r1,r2,r3,r4,r5,r6,r7,r8⟩,r9⟩:=yy R2;have g0:=yy G2 0;have g1:=yy G2 1;have g2:=yy G2 2;have g3:=yy G2 3;have g4:=yy G2 4;have g5:=yy G2 5;have g6:=yy G2 6;have g7:=yy G2 7;have g8:=yy G2 8;have g9:=yy G2 9;go_wp2_with fail;clear r0 r1 r2 r3 r4 r5 r6 r7 r8 r9 g0 g1 g2 g3 g4 g5 g6 g7 g8 g9;refine bodyPost_ret (v:=.agg #[.slice none 0 0,J Z 0,J Z 0,J Z 0,J Z 0,J Z 0,J Z 0,J Z 0,J Z 0,J Z 1]) ?_ rfl ⟨?_,?_⟩
  ·refine nH _ _ w.heap.size _ 0 0 0 0 0 0 0 0 1 rfl ?_;exact bJ (yy R2) _ _ _ _ _ _ _ _ _ _
  ·rw[yy HO1,yy HO2];exact ce _ _ _
  ·iterate 10 (refine aG ?_ (Nat.le_refl w.heap.size) _ _)
   exact yy B2
 have HO1:Hid (iQ L lim=⟨L,lim,0,0,0,0,0,0,0⟩):=yz (by unfold iQ lY;rw[if_neg h4,hk,hl];rfl);have HO2:Hid (kw L lim=0):=yz (by unfold kw lY;rw[if_neg h4,hk,hl];rfl);clear hill hk hl h4;have Z1:=an w1 (.cells #[] 74);have S2:=(yy S1).kept Z1;have B2:=ax B1 Z1;have R2:=ap R1 Z1;have G2:=yz ((yy G1).kept (yy R1).lt Z1);have N2:=tM w1 (w.heap.size+1) hsz1;have hcells:=yz (pv S2);have HN:=yz N2;clear Z1 S2 B1 R1 G1 S1 N2;obtain⟨i0,hinf,hz0,hz1,hz2⟩:=info_parts oB;go_wp2_with (at_builtin;refine wpList_append_own _ rfl _ _ 41 rfl (w.heap.size+1) 74 i0 (.agg #[J Z 0,J Z 0,J Z 0,J Z 0]) 4 32 Tryz.underlying41 hinf hz0 hz1 hz2 rfl (by decide) _ _ _ rfl (yy HN) ⟨b,o,none⟩ L.length c (dR L) rfl (iC L) (yy hcells) (fun u hu=>mf hu) ?d1 ?d2 ?d3 ?_)
 case d1=>
  have:1048576≤maxLen:=by decide +kernel
  omega
 case d2=>omega
 case d3=>simp;omega
 intro v' w3 ho hg _;obtain⟨a,cap,rfl,hC⟩:=kE ho;have hne:∀g,Value.ownBlock (.slice (some ⟨w1.heap.size,0,none⟩) 0 0)=some g→w.heap.size+1≤g:=fun g e=>by simp[Value.ownBlock]at e;omega
 have B3:=yz (oi (yy B2) hg (yy B2).size (fun g e=>by have:=hne g e;omega));have R3:=yz ((yy R2).grown hg (fun e=>by have:=hne _ e.symm;omega));have G3:=yz ((yy G2).grown (yy R2).lt hg (fun e=>by have:=hne _ e.symm;omega));have C3:=yz hC;clear ho hg hC hne B2 R2 G2 HN hcells;obtain⟨⟨r0,r1,r2,r3,r4,r5,r6,r7,r8⟩,r9⟩:=yy R3;have g0:=yy G3 0;have g1:=yy G3 1;have g2:=yy G3 2;have g3:=yy G3 3;have g4:=yy G3 4;have g5:=yy G3 5;have g6:=yy G3 6;have g7:=yy G3 7;have g8:=yy G3 8;have g9:=yy G3 9;go_wp2_with fail;clear r0 r1 r2 r3 r4 r5 r6 r7 r8 r9 g0 g1 g2 g3 g4 g5 g6 g7 g8 g9;refine bodyPost_ret (v:=.agg #[.slice a L.length cap,J Z lim,J Z 0,J Z 0,J Z 0,J Z 0,J Z 0,J Z 0,J Z 0,J Z 0]) ?_ rfl ⟨?_,?_⟩
 ·refine nH _ _ w.heap.size _ lim 0 0 0 0 0 0 0 0 rfl ?_;exact bJ (yy R3) _ _ _ _ _ _ _ _ _ _
 ·rw[yy HO1,yy HO2];refine⟨a,cap,rfl,?_⟩;refine aC.low (B:=w.heap.size+1) ?_ (by omega);iterate 10 (refine aC.far ?_ (Nat.lt_succ_self w.heap.size) _ _)
  exact yy C3
 ·iterate 10 (refine aG ?_ (Nat.le_refl w.heap.size) _ _)
  exact yy B3
theorem wO(L:List St)(lim:Int)(b o c:Nat)(p:Addr)(w:World)(hn:L.length≤1048576)(hcap:L.length≤c)(hc9:c≤9223372036854775807)(hE:bE p w)(hS:aZ w (some ⟨b,o,none⟩) L L.length):
  Calls Tryz.prog 41 #[.slice (some ⟨b,o,none⟩) L.length c,J Z lim] w fun e w'=>pA w' w.heap.size (iQ L lim) (kw L lim) e∧Below w.heap.size w w':=by
 have B0:=an w (.cells #[.slice none 0 0,J Z 0,J Z 0,J Z 0,J Z 0,J Z 0,J Z 0,J Z 0,J Z 0,J Z 0] 47);have R0:=lG w (.slice none 0 0) 0 0 0 0 0 0 0 0 0 47;have G0:=dS w #[.slice none 0 0,J Z 0,J Z 0,J Z 0,J Z 0,J Z 0,J Z 0,J Z 0,J Z 0,J Z 0] 47;by_cases h4:400<L.length
 ·have h4':(400:Int)<(L.length:Int):=by omega
  have HO1:Hid (iQ L lim=fO):=yz (by unfold iQ;rw[if_pos h4]);have HO2:Hid (kw L lim=2):=yz (by unfold kw;rw[if_pos h4]);have B2:=yz B0;have R2:=yz R0;have G2:=yz G0;clear h4 B0 R0 G0;go_enter Tryz.func41,Tryz.ntmps41;obtain⟨⟨r0,r1,r2,r3,r4,r5,r6,r7,r8⟩,r9⟩:=yy R2;have g0:=yy G2 0;have g1:=yy G2 1;have g2:=yy G2 2;have g3:=yy G2 3;have g4:=yy G2 4;have g5:=yy G2 5;have g6:=yy G2 6;have g7:=yy G2 7;have g8:=yy G2 8;have g9:=yy G2 9;go_wp2_with fail;clear r0 r1 r2 r3 r4 r5 r6 r7 r8 r9 g0 g1 g2 g3 g4 g5 g6 g7 g8 g9;refine bodyPost_ret (v:=.agg #[.slice none 0 0,J Z 0,J Z 0,J Z 0,J Z 0,J Z 0,J Z 0,J Z 0,J Z 0,J Z 2]) (by simp[results,Tryz.results41,go_sem]) rfl ⟨?_,?_⟩
  ·rw[yy HO1,yy HO2];exact ce _ _ _
  ·exact an _ _
 have h4':¬(400:Int)<(L.length:Int):=by omega
 have Z0:=an (w.alloc (.cells #[.slice none 0 0,J Z 0,J Z 0,J Z 0,J Z 0,J Z 0,J Z 0,J Z 0,J Z 0,J Z 0] 47)) (.cells #[.slice (some ⟨b,o,none⟩) L.length c,J Z lim,J Z 0,J Z 0,J Z 0,J Z 0,J Z 0,J Z 0,J Z 0] 45);have T0:=(by simpa using dY (w.alloc (.cells #[.slice none 0 0,J Z 0,J Z 0,J Z 0,J Z 0,J Z 0,J Z 0,J Z 0,J Z 0,J Z 0] 47)) (.slice (some ⟨b,o,none⟩) L.length c) lim 0 0 0 0 0 0 0 45:eu ((w.alloc (.cells #[.slice none 0 0,J Z 0,J Z 0,J Z 0,J Z 0,J Z 0,J Z 0,J Z 0,J Z 0,J Z 0] 47)).alloc (.cells #[.slice (some ⟨b,o,none⟩) L.length c,J Z lim,J Z 0,J Z 0,J Z 0,J Z 0,J Z 0,J Z 0,J Z 0] 45)) (w.heap.size+1) (.slice (some ⟨b,o,none⟩) L.length c) lim 0 0 0 0 0 0 0)
 have hsz:w.heap.size+2≤((w.alloc (.cells #[.slice none 0 0,J Z 0,J Z 0,J Z 0,J Z 0,J Z 0,J Z 0,J Z 0,J Z 0,J Z 0] 47)).alloc (.cells #[.slice (some ⟨b,o,none⟩) L.length c,J Z lim,J Z 0,J Z 0,J Z 0,J Z 0,J Z 0,J Z 0,J Z 0] 45)).heap.size:=by simp
 have HB:=yz (ak B0 Z0);have HR:=yz (R0.kept Z0);have HG:=yz (G0.kept R0.lt Z0);have HT:=yz T0;have HS:=yz ((hS.kept B0).kept Z0);have cR:=yz (gO L lim 0 0 0 0 0 0 0 (some ⟨b,o,none⟩) c p _ hn hcap hc9 (yy HS) ((hE.kept B0).kept Z0));have cC:=yz (fun W h=>kr L lim 0 0 0 0 0 0 0 (some ⟨b,o,none⟩) c W hn h);rw[Bv]at cR;clear B0 R0 G0 Z0 T0 hS hE;go_enter Tryz.func41,Tryz.ntmps41;go_wp2_with fail;generalize hW:(w.alloc (.cells #[.slice none 0 0,J Z 0,J Z 0,J Z 0,J Z 0,J Z 0,J Z 0,J Z 0,J Z 0,J Z 0] 47)).alloc (.cells #[.slice (some ⟨b,o,none⟩) L.length c,J Z lim,J Z 0,J Z 0,J Z 0,J Z 0,J Z 0,J Z 0,J Z 0] 45)=W at *;clear hW;refine(yy cR).mono ?_;rintro e w1 ⟨rfl,hx⟩;have B1:=ax HB hx;have T1:=ap HT hx;have R1:=ap HR hx;have G1:=yz ((yy HG).kept (yy HR).lt hx);have S1:=ap HS hx;have hsz1:w.heap.size+2≤w1.heap.size:=Nat.le_trans hsz hx.size;clear hx HB HT HR HG HS hsz cR;cases hk:lY L lim
 ·have HO1:Hid (iQ L lim=fO):=yz (by unfold iQ;rw[if_neg h4,hk];rfl);have HO2:Hid (kw L lim=1):=yz (by unfold kw;rw[if_neg h4,hk];rfl);have B2:=B1;have R2:=R1;have G2:=G1;clear B1 R1 G1;obtain⟨⟨r0,r1,r2,r3,r4,r5,r6,r7,r8⟩,r9⟩:=yy R2;have g0:=yy G2 0;have g1:=yy G2 1;have g2:=yy G2 2;have g3:=yy G2 3;have g4:=yy G2 4;have g5:=yy G2 5;have g6:=yy G2 6;have g7:=yy G2 7;have g8:=yy G2 8;have g9:=yy G2 9;go_wp2_with fail;clear r0 r1 r2 r3 r4 r5 r6 r7 r8 r9 g0 g1 g2 g3 g4 g5 g6 g7 g8 g9;refine bodyPost_ret (v:=.agg #[.slice none 0 0,J Z 0,J Z 0,J Z 0,J Z 0,J Z 0,J Z 0,J Z 0,J Z 0,J Z 1]) ?_ rfl ⟨?_,?_⟩
  ·refine xP _ _ w.heap.size _ 0 0 0 0 0 0 0 0 1 rfl ?_;exact bJ (yy R2) _ _ _ _ _ _ _ _ _ _
  ·rw[yy HO1,yy HO2];exact ce _ _ _
  ·iterate 10 (refine aG ?_ (Nat.le_refl w.heap.size) _ _)
   exact yy B2
 ·have HO1:Hid (iQ L lim=⟨L,lim,0,0,0,0,0,0,0⟩):=yz (by unfold iQ;rw[if_neg h4,hk];rfl);have HO2:Hid (kw L lim=0):=yz (by unfold kw;rw[if_neg h4,hk];rfl);clear hk h4;obtain⟨s0,s1,s2,s3,s4,s5,s6,s7,s8⟩:=yy T1;go_wp2_with fail;clear s0 s1 s2 s3 s4 s5 s6 s7 s8;refine(yy cC _ (yy S1)).mono ?_;rintro e w2 ⟨a,cap,rfl,hC,hx⟩;have B2:=ax B1 hx;have R2:=ap R1 hx;have G2:=yz ((yy G1).kept (yy R1).lt hx);have C2:=yz (hC.low (B':=w.heap.size+1) (by omega));clear hx hC B1 R1 G1 T1 S1 cC;go_wp2_with fail;refine(nY lim 0 0 0 0 0 0 0 a L.length cap _).mono ?_;rintro e w3 ⟨rfl,hx⟩;have B3:=ax B2 hx;have R3:=ap R2 hx;have G3:=yz ((yy G2).kept (yy R2).lt hx);have C3:=ap C2 hx;clear hx B2 R2 G2 C2;obtain⟨⟨r0,r1,r2,r3,r4,r5,r6,r7,r8⟩,r9⟩:=yy R3;have g0:=yy G3 0;have g1:=yy G3 1;have g2:=yy G3 2;have g3:=yy G3 3;have g4:=yy G3 4;have g5:=yy G3 5;have g6:=yy G3 6;have g7:=yy G3 7;have g8:=yy G3 8;have g9:=yy G3 9;go_wp2_with fail;clear r0 r1 r2 r3 r4 r5 r6 r7 r8 r9 g0 g1 g2 g3 g4 g5 g6 g7 g8 g9;refine bodyPost_ret (v:=.agg #[.slice a L.length cap,J Z lim,J Z 0,J Z 0,J Z 0,J Z 0,J Z 0,J Z 0,J Z 0,J Z 0]) ?_ rfl ⟨?_,?_⟩
  ·refine xP _ _ w.heap.size _ lim 0 0 0 0 0 0 0 0 rfl ?_;exact bJ (yy R3) _ _ _ _ _ _ _ _ _ _
  ·rw[yy HO1,yy HO2];refine⟨a,cap,rfl,?_⟩;refine aC.low (B:=w.heap.size+1) ?_ (by omega);iterate 10 (refine aC.far ?_ (Nat.lt_succ_self w.heap.size) _ _)
   exact yy C3
  ·iterate 10 (refine aG ?_ (Nat.le_refl w.heap.size) _ _)
   exact yy B3
end
section
open Go.RowKit
theorem sN(a:Int):0≤IntKind.u64.wrap a∧IntKind.u64.wrap a≤18446744073709551615:=by
 have h:=wf_wrap .u64 a;simpa[Lit.wf,IntKind.min,IntKind.max,IntKind.signed,IntKind.bits] using h
theorem zv(a:Option Addr)(len cap:Nat)(w:World)(hl:len≤1048576)(hR:Row w a len w.heap.size):
  Calls Tryz.prog 13 #[.slice a len cap] w fun e w'=>e=.returned (.pointer (some ⟨w.heap.size,0,none⟩))∧bn w.heap.size w'∧Below w.heap.size w w':=by
 have HR:=yz hR;clear hR;go_enter Tryz.func13,Tryz.ntmps13;go_wp2
 go_loopw [4] (fun i wr=>∃(k:Nat) (mix:Int),k≤len∧k≤64∧i=.int .i64 k∧0≤mix∧mix≤18446744073709551615 ∧
   wr.cell? ⟨w.heap.size,0,none⟩=some (.slice a len cap)∧wr.cell? ⟨w.heap.size,1,none⟩=some (.int .i64 0)∧wr.cell? ⟨w.heap.size,2,none⟩=some (.int .u64 mix)∧wr.cell? ⟨w.heap.size,3,none⟩=some (.int .i64 0) ∧
   wr.frozen? ⟨w.heap.size,0,none⟩=false∧wr.frozen? ⟨w.heap.size,1,none⟩=false∧wr.frozen? ⟨w.heap.size,2,none⟩=false∧wr.frozen? ⟨w.heap.size,3,none⟩=false∧Below w.heap.size w wr) (fun i _=>64-(intOf i).toNat)
 case atStart=>exact⟨0,88172645463325252,by omega,by omega,rfl,by omega,by omega,by simp,by simp,by simp,by simp,by simp,by simp,by simp,by simp,(Below.refl _ _).alloc (Nat.le_refl _) _⟩
 case round=>
  obtain⟨k,mix,hk,hk64,rfl,m0,m1,c0,c1,c2,c3,f0,f1,f2,f3,hB⟩:=hrel;by_cases hlt:k<len∧k<64
  ·obtain⟨h1,h2⟩:=hlt;rcases yy HR with h0 | ⟨bx,ox,rfl,hbx,hz⟩
   ·omega
   obtain⟨z,cz,z0,z1⟩:=hz k h1;have cz':wr.cell? ⟨bx,ox+k,none⟩=some (.int .u8 z):=by rw[hB.cell (p:=⟨bx,ox+k,none⟩) hbx];exact cz
   obtain⟨m,hme⟩:∃m,IntKind.u64.wrap (bits .xor .u64 mix z*1099511628211)=m:=⟨_,rfl⟩
   have hmr:0≤m∧m≤18446744073709551615:=by rw[←hme];exact sN _
   have hk1:(k:Int)<(len:Int):=by omega
   have hk2:(k:Int)<64:=by omega
   clear hz cz;go_wp2;go_region
   go_wp2;go_roundw
   case rel=>exact⟨k+1,m,by omega,by omega,by go_num,hmr.1,hmr.2,by go_simp,by go_simp,by go_simp,by go_simp,by go_simp,by go_simp,by go_simp,by go_simp,(hB.setCell (Nat.le_refl _) _).drew⟩
   case measure=>simp[intOf];omega
  ·have hRr:=(yy HR).kept hB.block;have HRr:=yz hRr;have hss:=fun v v'=>vo wr w.heap.size 3 v v';have hex:((len:Int)≤(k:Int)∧(len:Int) / 20≤12)∨(((k:Int)<(len:Int)∧(64:Int)≤(k:Int))∧(len:Int) / 20≤12)∨(((k:Int)<(len:Int)∧(64:Int)≤(k:Int))∧12<(len:Int) / 20):=by omega
   clear hRr hlt;rcases hex with ⟨hex,hq⟩ | ⟨hex,hq⟩ | ⟨hex,hq⟩
   ·go_wp2;go_ret;exact⟨rfl,⟨a,len,cap,0,mix,(len:Int) / 20,by go_simp,by go_simp,by go_simp,by go_simp,by go_simp,by go_simp,by go_simp,by go_simp,by omega,by omega,hl,m0,m1,by omega,by omega,(yy HRr).kept (fun j hj=>Below.heap_setCell _ _ _ _ (by simp;omega))⟩,hB.setCell (Nat.le_refl _) _⟩
   ·go_wp2;go_ret;exact⟨rfl,⟨a,len,cap,0,mix,(len:Int) / 20,by go_simp,by go_simp,by go_simp,by go_simp,by go_simp,by go_simp,by go_simp,by go_simp,by omega,by omega,hl,m0,m1,by omega,by omega,(yy HRr).kept (fun j hj=>Below.heap_setCell _ _ _ _ (by simp;omega))⟩,hB.setCell (Nat.le_refl _) _⟩
   ·go_wp2;go_ret;exact⟨rfl,⟨a,len,cap,0,mix,12,by go_simp,by go_simp,by go_simp,by go_simp,by go_simp,by go_simp,by go_simp,by go_simp,by omega,by omega,hl,m0,m1,by omega,by omega,(yy HRr).kept (fun j hj=>Below.heap_setCell _ _ _ _ (by simp;omega))⟩,hB.setCell (Nat.le_refl _) _⟩
end
end Go.Proofs.YtdchjcadhlkpfaaGreatDoor
