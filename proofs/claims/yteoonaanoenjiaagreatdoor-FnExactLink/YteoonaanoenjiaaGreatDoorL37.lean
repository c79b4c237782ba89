/- Several texts in one: BlG. -/
import Derived.Test.YteoonaanoenjiaaGreatDoorL36
namespace Go.Proofs.YteoonaanoenjiaaGreatDoor
set_option linter.unusedVariables false
set_option linter.unusedSimpArgs false
set_option maxRecDepth 100000
set_option maxHeartbeats 8000000
section
open Go.Value renaming int → J
open Go.IntKind renaming i64 → Z
open Go.RowKit Go.Sort
theorem CJ(f:Fr)(p c r:Nat)(hc:c=p % f.wd)(hr:r=p / f.wd)(h1:1≤f.wd)(h2:1≤f.ht):kI f.wd f.ht c r=eE f p:=by
 unfold kI eE;rw[←hc,←hr,Bool.eq_iff_iff];simp only[Bool.or_eq_true,decide_eq_true_eq];omega
def ot(n:Nat)(b:Bl):List Value:=[J Z n,J Z b.su,J Z b.sx,J Z b.sy,.bool b.ed]
theorem zN(wd ht:Nat)(s:ByteArray)(lv:Int)(A:List Nat)(v:Value)(B:Nat)(w:World)(hw0:1≤wd)(hw:wd≤16)(hh0:1≤ht)(hh:ht≤12)(hs:s.size=wd*ht)(hA:A.length≤192)(hin:∀j∈A,j<s.size)(hv:w.ownsRow B 284 2 v A.length (mh wd A)):
  Calls Tryz.prog 211 #[.agg #[J Z wd,J Z ht,.string s],v] w fun e w'=>e=.returned (.agg (it (gw (ic wd ht s lv) A)).toArray)∧Below w.heap.size w w':=by
 obtain⟨a1,cap1,hv1⟩:=bM hv;subst hv1;have HSZ:=yz hs;have HIN:=yz hin;have HV:=yz hv;have F0:=((ap w [J Z (wd:Int),J Z (ht:Int),.string s] 43).alloc (.cells #[J Z 0,J Z 0,J Z 0,J Z 0,.bool false] 163)).alloc (.cells #[J Z (A.length:Int),J Z 0,J Z 0,J Z 0,.bool false] 163);have R0:=(ap (w.alloc (.cells #[J Z (wd:Int),J Z (ht:Int),.string s] 43)) [J Z 0,J Z 0,J Z 0,J Z 0,.bool false] 163).alloc (.cells #[J Z (A.length:Int),J Z 0,J Z 0,J Z 0,.bool false] 163);have Q0:=ap ((w.alloc (.cells #[J Z (wd:Int),J Z (ht:Int),.string s] 43)).alloc (.cells #[J Z 0,J Z 0,J Z 0,J Z 0,.bool false] 163)) [J Z (A.length:Int),J Z 0,J Z 0,J Z 0,.bool false] 163;have B0:=bq w (.cells #[J Z (wd:Int),J Z (ht:Int),.string s] 43) (.cells #[J Z 0,J Z 0,J Z 0,J Z 0,.bool false] 163) (.cells #[J Z (A.length:Int),J Z 0,J Z 0,J Z 0,.bool false] 163);have e1:(w.alloc (.cells #[J Z (wd:Int),J Z (ht:Int),.string s] 43)).heap.size=w.heap.size+1:=by simp
 have e2:((w.alloc (.cells #[J Z (wd:Int),J Z (ht:Int),.string s] 43)).alloc (.cells #[J Z 0,J Z 0,J Z 0,J Z 0,.bool false] 163)).heap.size=w.heap.size+1+1:=by simp
 rw[e1]at R0;rw[e2]at Q0;have O0:=aW hv B0;clear e1 e2 hs hin hv;generalize hfe:ic wd ht s lv=f;have HF:=yz hfe;clear hfe;go_enter Tryz.func211,Tryz.ntmps211;go_upto_region 2 with fail;generalize ((w.alloc (.cells #[J Z (wd:Int),J Z (ht:Int),.string s] 43)).alloc (.cells #[J Z 0,J Z 0,J Z 0,J Z 0,.bool false] 163)).alloc (.cells #[J Z (A.length:Int),J Z 0,J Z 0,J Z 0,.bool false] 163)=W0 at F0 R0 Q0 B0 O0 ⊢;clear O0;have hF0:=yz F0;have hR0:=yz R0;have hQ0:Hid (Blk W0 (w.heap.size+1+1) (ot A.length (gw f (A.take 0))) 163):=yz Q0;have hB0:=yz B0;clear F0 R0 Q0 B0;have HFN:Hid (f.n=s.size):=yz (by rw[←yx HF];exact(yx HSZ).symm);go_wp2_with fail;go_loopw [14] (fun kk wr=>∃k:Nat,k≤A.length∧kk=J Z k∧Hid (Blk wr w.heap.size [J Z (wd:Int),J Z (ht:Int),.string s] 43)∧Hid (Blk wr (w.heap.size+1) [J Z 0,J Z 0,J Z 0,J Z 0,.bool false] 163)∧Hid (Blk wr (w.heap.size+1+1) (ot A.length (gw f (A.take k))) 163)∧Hid (Below w.heap.size w wr)) (fun kk _=>A.length-(intOf kk).toNat)
 case atStart=>exact⟨0,Nat.zero_le _,rfl,hF0,hR0,hQ0,hB0⟩
 case round=>
  clear hF0 hR0 hQ0 hB0;obtain⟨k,hk,rfl,HFr,HR,HQ,HB⟩:=hrel;by_cases hkn:k<A.length
  ·have hpm:A.getD k 0∈A:=by rw[List.getD,List.getElem?_eq_getElem hkn];exact List.getElem_mem hkn
   have hpl:=yx HIN _ hpm
   have HTK:Hid (A.take (k+1)=A.take k ++ [A.getD k 0]):=yz (by
    rw[List.take_succ_eq_append_getElem hkn,List.getD,List.getElem?_eq_getElem hkn];rfl)
   have hbd:=pf (f:=f) (by rw[←yx HF];exact hw) (by rw[←yx HF];exact hh) (fun i=>by rw[←yx HF];exact hZ s i) (A.take k) (fun j hj=>by rw[yx HFN];exact yx HIN j (List.mem_of_mem_take hj));rw[List.length_take]at hbd;have hfd:=aW (yx HV) (yx HB);obtain⟨e0,e1⟩:=BX wd A k hkn
   obtain⟨g7,hg7⟩:∃g,a1=some ⟨g,0,none⟩:=by
    rcases hfd.2 with ⟨h1,h0⟩ | ⟨g,cap,cur,h1,_⟩
    ·omega
    ·injection h1 with h1 _ _;exact⟨g,h1⟩
   subst hg7;have c0:wr.cell? ⟨g7,k*2,none⟩=_:=(hfd.cellAt (k*2) (by omega)).trans e0;have c1:wr.cell? ⟨g7,k*2+1,none⟩=_:=(hfd.cellAt (k*2+1) (by omega)).trans e1;clear hfd e0 e1 hpm;generalize hpe:A.getD k 0=p at *;clear hpe;generalize hbe:gw f (A.take k)=b at *;have HBe:=yz hbe;clear hbe;obtain⟨ar,su,sx,sy,ed⟩:=b;simp only at hbd;obtain⟨_,hb2,hb3,hb4⟩:=hbd;obtain⟨c,hce⟩:∃c,c=p % wd:=⟨_,rfl⟩
   obtain⟨r,hre⟩:∃r,r=p / wd:=⟨_,rfl⟩
   rw[←hce]at c0;rw[←hre]at c1;have hcl:c<wd:=by rw[hce];exact Nat.mod_lt _ (by omega)
   have hrl:r<ht:=by rw[hre];exact Nat.div_lt_of_lt_mul (by rw[←yx HSZ];exact hpl)
   have HPC:Hid (r*wd+c=p):=yz (by rw[hce,hre,Nat.mul_comm];exact Nat.div_add_mod p wd);have HCe:=yz hce;have HRe:=yz hre;clear hce hre;have hk2:(k:Int)<(A.length:Int):=by omega
   have lbw:w.heap.size+1+1<wr.heap.size:=(yx HQ).lt;have Z1:=ak wr (.cells #[J Z (c:Int),J Z (r:Int)] 284);have P1:=ap wr [J Z (c:Int),J Z (r:Int)] 284;have F1:=(yx HFr).kept Z1;have R1:=(yx HR).kept Z1;have Q1:=(yx HQ).kept Z1;have B1:=(yx HB).trans (Z1.mono (by omega));clear Z1 HFr HR HQ HB;go_upto_region 5 with fail;generalize hpb:wr.heap.size=pb at *;generalize wr.alloc (.cells #[J Z (c:Int),J Z (r:Int)] 284)=W1 at P1 F1 R1 Q1 B1 ⊢;clear c0 c1;have c0:=P1.cell 0 _ rfl;have c1:=P1.cell 1 _ rfl;have f0:=eP (F1);go_wp2_with fail;refine(uQ wd ht s c r _ hw hh (yx HSZ) hcl hrl).mono ?_;rintro e W2 ⟨rfl,hx2⟩;rw[yx HPC];have P2:=P1.kept hx2;have F2:=F1.kept hx2;have R2:=R1.kept hx2;have Q2:=Q1.kept hx2;have B2:=B1.trans (hx2.mono (Nat.le_of_lt F1.lt));clear hx2 P1 F1 R1 Q1 B1 c0 c1 f0;have hnb:=hZ s p;obtain⟨n,hne⟩:∃n,n=dc s p:=⟨_,rfl⟩
   rw[←hne]at hnb ⊢;have HNe:=yz hne;clear hne;obtain⟨m1,hm1⟩:∃m1,m1=n*c:=⟨_,rfl⟩
   obtain⟨m2,hm2⟩:∃m2,m2=n*r:=⟨_,rfl⟩
   have hm1b:m1≤255*15:=by rw[hm1];exact Nat.mul_le_mul (by omega) (by omega)
   have hm2b:m2≤255*11:=by rw[hm2];exact Nat.mul_le_mul (by omega) (by omega)
   have hx1:(n:Int)*(c:Int)=(m1:Int):=by rw[hm1];exact(Int.natCast_mul _ _).symm
   have hx2:(n:Int)*(r:Int)=(m2:Int):=by rw[hm2];exact(Int.natCast_mul _ _).symm
   have HM1:=yz hm1;have HM2:=yz hm2;clear hm1 hm2;have q1:=Q2.cell 1 _ rfl;have q2:=Q2.cell 2 _ rfl;have q3:=Q2.cell 3 _ rfl;have e1:=Q2.free 1;have e2:=Q2.free 2;have e3:=Q2.free 3;have p0:=P2.cell 0 _ rfl;have p1:=P2.cell 1 _ rfl;have npb:pb≠w.heap.size+1+1:=by omega
   try simp only at q1 q2 q3
   go_upto_region 9 with fail;have lo:w.heap.size≤w.heap.size+1+1:=by omega
   have Q3:=((Q2.set 1 (J Z ((su:Int)+(n:Int)))).set 2 (J Z ((sx:Int)+(m1:Int)))).set 3 (J Z ((sy:Int)+(m2:Int)));have P3:=((P2.other ⟨w.heap.size+1+1,1,none⟩ (J Z ((su:Int)+(n:Int))) npb).other ⟨w.heap.size+1+1,2,none⟩ (J Z ((sx:Int)+(m1:Int))) npb).other ⟨w.heap.size+1+1,3,none⟩ (J Z ((sy:Int)+(m2:Int))) npb;have nfb:w.heap.size≠w.heap.size+1+1:=by omega
   have nrb:w.heap.size+1≠w.heap.size+1+1:=by omega
   have F3:=((F2.other ⟨w.heap.size+1+1,1,none⟩ (J Z ((su:Int)+(n:Int))) nfb).other ⟨w.heap.size+1+1,2,none⟩ (J Z ((sx:Int)+(m1:Int))) nfb).other ⟨w.heap.size+1+1,3,none⟩ (J Z ((sy:Int)+(m2:Int))) nfb;have R3:=((R2.other ⟨w.heap.size+1+1,1,none⟩ (J Z ((su:Int)+(n:Int))) nrb).other ⟨w.heap.size+1+1,2,none⟩ (J Z ((sx:Int)+(m1:Int))) nrb).other ⟨w.heap.size+1+1,3,none⟩ (J Z ((sy:Int)+(m2:Int))) nrb;have B3:=((B2.setCell (p:=⟨w.heap.size+1+1,1,none⟩) lo (J Z ((su:Int)+(n:Int)))).setCell (p:=⟨w.heap.size+1+1,2,none⟩) lo (J Z ((sx:Int)+(m1:Int)))).setCell (p:=⟨w.heap.size+1+1,3,none⟩) lo (J Z ((sy:Int)+(m2:Int)));generalize (((W2.setCell ⟨w.heap.size+1+1,1,none⟩ (J Z ((su:Int)+(n:Int)))).setCell ⟨w.heap.size+1+1,2,none⟩ (J Z ((sx:Int)+(m1:Int)))).setCell ⟨w.heap.size+1+1,3,none⟩ (J Z ((sy:Int)+(m2:Int))))=W3 at Q3 P3 F3 R3 B3 ⊢;clear Q2 P2 F2 R2 B2 q1 q2 q3 e1 e2 e3 p0 p1 hx1 hx2
   have HBB:Hid (ot A.length (gw f (A.take (k+1)))=[J Z (A.length:Int),J Z ((su:Int)+(n:Int)),J Z ((sx:Int)+(m1:Int)),J Z ((sy:Int)+(m2:Int)),.bool (ed || eE f p)]):=yz (by
    rw[yx HTK,vq,yx HBe,yx HM1,yx HM2,yx HNe,yx HCe,yx HRe,←yx HF];unfold ot tv ic
    simp)
   have q4:=Q3.cell 4 _ rfl;have e4:=Q3.free 4;try simp only at q4
   cases ed
   ·have c0:=P3.cell 0 _ rfl;have c1:=P3.cell 1 _ rfl;have f0:=eP (F3)
    have HED:Hid (kI wd ht c r=eE f p):=yz (by
     have h:=CJ f p c r (by rw[←yx HF];exact yx HCe) (by rw[←yx HF];exact yx HRe) (by rw[←yx HF];exact hw0) (by rw[←yx HF];exact hh0);rw[←yx HF]at h ⊢
     exact h)
    go_wp2_with fail;refine(zI wd ht s c r _ (by omega) (by omega) (by omega) (by omega)).mono ?_;rintro e W4 ⟨rfl,hx4⟩;rw[yx HED];have Q4:=Q3.kept hx4;have F4:=F3.kept hx4;have R4:=R3.kept hx4;have B4:=B3.trans (hx4.mono (Nat.le_of_lt F3.lt));clear q4 e4 c0 c1 f0 hx4 Q3 F3 R3 B3 P3;have e4:=Q4.free 4;have q4:=Q4.cell 4 _ rfl;try simp only at q4
    have HQ5:Hid (Blk (W4.setCell ⟨w.heap.size+1+1,4,none⟩ (.bool (eE f p))) (w.heap.size+1+1) (ot A.length (gw f (A.take (k+1)))) 163):=yz (by rw[yx HBB];exact Q4.set 4 (.bool (eE f p)));have HF5:=yz (F4.other ⟨w.heap.size+1+1,4,none⟩ (.bool (eE f p)) nfb);have HR5:=yz (R4.other ⟨w.heap.size+1+1,4,none⟩ (.bool (eE f p)) nrb);have HB5:=yz (B4.setCell (p:=⟨w.heap.size+1+1,4,none⟩) lo (.bool (eE f p)));clear Q4 F4 R4 B4;go_wp2_with fail;go_roundw
    case rel=>exact⟨k+1,by omega,by go_num,HF5,HR5,HQ5,HB5⟩
    case measure=>simp[intOf]<;>omega
   ·have HQ5:Hid (Blk (W3.setCell ⟨w.heap.size+1+1,4,none⟩ (.bool true)) (w.heap.size+1+1) (ot A.length (gw f (A.take (k+1)))) 163):=yz (by rw[yx HBB,Bool.true_or];exact Q3.set 4 (.bool true));have HF5:=yz (F3.other ⟨w.heap.size+1+1,4,none⟩ (.bool true) nfb);have HR5:=yz (R3.other ⟨w.heap.size+1+1,4,none⟩ (.bool true) nrb);have HB5:=yz (B3.setCell (p:=⟨w.heap.size+1+1,4,none⟩) lo (.bool true));clear Q3 F3 R3 B3 P3;go_wp2_with fail;go_roundw
    case rel=>exact⟨k+1,by omega,by go_num,HF5,HR5,HQ5,HB5⟩
    case measure=>simp[intOf]<;>omega
  ·have hke:A.length≤k:=by omega
   have HTk:Hid (A.take k=A):=yz (List.take_of_length_le hke);rw[yx HTk]at HQ
   have HAr:Hid ((gw f A).ar=A.length):=yz (by
    have:=(pf (f:=f) (by rw[←yx HF];exact hw) (by rw[←yx HF];exact hh) (fun i=>by rw[←yx HF];exact hZ s i) A (fun j hj=>by rw[yx HFN];exact yx HIN j hj)).1
    exact this)
   have hkk:¬(k:Int)<(A.length:Int):=by omega
   generalize hbe:gw f A=b at *;have HBq:=yz hbe;clear hbe;obtain⟨ar,su,sx,sy,ed⟩:=b;obtain⟨q0,q1,q2,q3,q4⟩:=gL (yx HQ);obtain⟨r0,r1,r2,r3,r4⟩:=gL (yx HR);have g0:=qa (yx HR);try simp only at q0 q1 q2 q3 q4
   go_wp2_with fail;have lo:w.heap.size≤w.heap.size+1:=Nat.le_succ _;refine bodyPost_ret (v:=.agg #[J Z (A.length:Int),J Z su,J Z sx,J Z sy,.bool ed]) (by simp[results,Tryz.results211,go_sem,r0,r1,r2,r3,r4]) rfl ⟨?_,(((((yx HB).setCell lo _).setCell lo _).setCell lo _).setCell lo _).setCell lo _⟩;have h:=yx HAr;try simp only at h
   unfold it;rw[←h,yx HBq]
end
end Go.Proofs.YteoonaanoenjiaaGreatDoor
