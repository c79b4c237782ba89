/- Several texts in one: NaA. -/
import Derived.Test.YteoonaanoenjiaaGreatDoorL19
namespace Go.Proofs.YteoonaanoenjiaaGreatDoor
set_option linter.unusedVariables false
set_option linter.unusedSimpArgs false
set_option maxRecDepth 100000
set_option maxHeartbeats 8000000
section
open Go.Value renaming int → J
open Go.IntKind renaming i64 → Y
open Go.RowKit Go.Sort
def sgL(s:Sg):List Value:=[J Y s.1.1,J Y s.1.2.1,J Y s.1.2.2,J Y s.2.1,J Y s.2.2.1,J Y s.2.2.2.1,J Y s.2.2.2.2]
def sgV(s:Sg):Value:=.agg #[J Y s.1.1,J Y s.1.2.1,J Y s.1.2.2,J Y s.2.1,J Y s.2.2.1,J Y s.2.2.2.1,J Y s.2.2.2.2]
def qV(w:World)(b o:Nat)(s:Sg):Prop:=w.cell? ⟨b,o,none⟩=some (J Y s.1.1)∧w.cell? ⟨b,o+1,none⟩=some (J Y s.1.2.1)∧w.cell? ⟨b,o+2,none⟩=some (J Y s.1.2.2)∧w.cell? ⟨b,o+3,none⟩=some (J Y s.2.1)∧w.cell? ⟨b,o+4,none⟩=some (J Y s.2.2.1)∧w.cell? ⟨b,o+5,none⟩=some (J Y s.2.2.2.1)∧w.cell? ⟨b,o+6,none⟩=some (J Y s.2.2.2.2)
variable {b o:Nat} {a:Option Addr} {w w':World}
theorem qV.lt{s:Sg}(h:qV w b o s):b<w.heap.size:=World.block_lt_of_cell? w _ h.1
theorem qV.kept{s:Sg}(h:qV w b o s)(hB:Below w.heap.size w w'):qV w' b o s:=by
 have hb:=h.lt;obtain⟨h0,h1,h2,h3,h4,h5,h6⟩:=h;exact⟨by rw[hB.cell (p:=⟨b,o,none⟩) hb];exact h0,by rw[hB.cell (p:=⟨b,o+1,none⟩) hb];exact h1,by rw[hB.cell (p:=⟨b,o+2,none⟩) hb];exact h2,by rw[hB.cell (p:=⟨b,o+3,none⟩) hb];exact h3,by rw[hB.cell (p:=⟨b,o+4,none⟩) hb];exact h4,by rw[hB.cell (p:=⟨b,o+5,none⟩) hb];exact h5,by rw[hB.cell (p:=⟨b,o+6,none⟩) hb];exact h6⟩
theorem gD(w:World)(s:Sg)(t:TypeId):qV (w.alloc (.cells #[J Y s.1.1,J Y s.1.2.1,J Y s.1.2.2,J Y s.2.1,J Y s.2.2.1,J Y s.2.2.2.1,J Y s.2.2.2.2] t)) w.heap.size 0 s:=by
 refine⟨?_,?_,?_,?_,?_,?_,?_⟩<;>simp
def fG(w:World)(a:Option Addr)(A:List Sg)(n:Nat):Prop:=n=0∨∃b o,a=some ⟨b,o,none⟩∧b<w.heap.size∧∀i,i<n→qV w b (o+i*7) (sgA A i)
theorem fG.kept{A:List Sg}{n:Nat}(h:fG w a A n)(hB:Below w.heap.size w w'):fG w' a A n:=by
 rcases h with h | ⟨b,o,ha,hb,hc⟩
 ·exact .inl h
 ·exact .inr ⟨b,o,ha,Nat.lt_of_lt_of_le hb hB.size,fun i hi=>(hc i hi).kept hB⟩
theorem fG.less{A:List Sg}{n m:Nat}(h:fG w a A n)(hm:m≤n):fG w a A m:=by
 rcases h with h | ⟨b,o,ha,hb,hc⟩
 ·exact .inl (by omega)
 ·exact .inr ⟨b,o,ha,hb,fun i hi=>hc i (by omega)⟩
theorem yi(s t:Sg)(w:World):
  Calls Tryz.prog 224 #[sgV s,sgV t] w fun e w'=>e=.returned (.bool (kP s t))∧Below w.heap.size w w':=by
 obtain⟨⟨a1,a2,a3⟩,a4,a5,a6,a7⟩:=s;obtain⟨⟨b1,b2,b3⟩,b4,b5,b6,b7⟩:=t;unfold sgV kP;simp only;have HB:=yz (aF w (.cells #[J Y a1,J Y a2,J Y a3,J Y a4,J Y a5,J Y a6,J Y a7] 299) (.cells #[J Y b1,J Y b2,J Y b3,J Y b4,J Y b5,J Y b6,J Y b7] 299));go_enter Tryz.func224,Tryz.ntmps224;go_wp2_with fail;refine(zT b1 b2 b3 a1 a2 a3 b5 b6 b7 a5 a6 a7 _).mono ?_;rintro e w1 ⟨rfl,hx⟩;have HB1:=aA HB hx;clear hx;go_wp2_with fail;go_ret;exact⟨rfl,yx HB1⟩
theorem wm(s f g:Sg)(w:World):
  Calls Tryz.prog 225 #[sgV s,sgV f,sgV g] w fun e w'=>e=.returned (.bool (ee s f g))∧Below w.heap.size w w':=by
 have A0:=((gD w s 299).kept (ak _ (.cells #[J Y f.1.1,J Y f.1.2.1,J Y f.1.2.2,J Y f.2.1,J Y f.2.2.1,J Y f.2.2.2.1,J Y f.2.2.2.2] 299))).kept (ak _ (.cells #[J Y g.1.1,J Y g.1.2.1,J Y g.1.2.2,J Y g.2.1,J Y g.2.2.1,J Y g.2.2.2.1,J Y g.2.2.2.2] 299));have F0:=(gD (w.alloc (.cells #[J Y s.1.1,J Y s.1.2.1,J Y s.1.2.2,J Y s.2.1,J Y s.2.2.1,J Y s.2.2.2.1,J Y s.2.2.2.2] 299)) f 299).kept (ak _ (.cells #[J Y g.1.1,J Y g.1.2.1,J Y g.1.2.2,J Y g.2.1,J Y g.2.2.1,J Y g.2.2.2.1,J Y g.2.2.2.2] 299));have G0:=gD ((w.alloc (.cells #[J Y s.1.1,J Y s.1.2.1,J Y s.1.2.2,J Y s.2.1,J Y s.2.2.1,J Y s.2.2.2.1,J Y s.2.2.2.2] 299)).alloc (.cells #[J Y f.1.1,J Y f.1.2.1,J Y f.1.2.2,J Y f.2.1,J Y f.2.2.1,J Y f.2.2.2.1,J Y f.2.2.2.2] 299)) g 299;have B0:=bq w (.cells #[J Y s.1.1,J Y s.1.2.1,J Y s.1.2.2,J Y s.2.1,J Y s.2.2.1,J Y s.2.2.2.1,J Y s.2.2.2.2] 299) (.cells #[J Y f.1.1,J Y f.1.2.1,J Y f.1.2.2,J Y f.2.1,J Y f.2.2.1,J Y f.2.2.2.1,J Y f.2.2.2.2] 299) (.cells #[J Y g.1.1,J Y g.1.2.1,J Y g.1.2.2,J Y g.2.1,J Y g.2.2.1,J Y g.2.2.2.1,J Y g.2.2.2.2] 299);have e1:(w.alloc (.cells #[J Y s.1.1,J Y s.1.2.1,J Y s.1.2.2,J Y s.2.1,J Y s.2.2.1,J Y s.2.2.2.1,J Y s.2.2.2.2] 299)).heap.size=w.heap.size+1:=by simp
 have e2:((w.alloc (.cells #[J Y s.1.1,J Y s.1.2.1,J Y s.1.2.2,J Y s.2.1,J Y s.2.2.1,J Y s.2.2.2.1,J Y s.2.2.2.2] 299)).alloc (.cells #[J Y f.1.1,J Y f.1.2.1,J Y f.1.2.2,J Y f.2.1,J Y f.2.2.1,J Y f.2.2.2.1,J Y f.2.2.2.2] 299)).heap.size=w.heap.size+1+1:=by simp
 rw[e1]at F0;rw[e2]at G0;clear e1 e2;obtain⟨⟨a1,a2,a3⟩,a4,a5,a6,a7⟩:=s;obtain⟨⟨b1,b2,b3⟩,b4,b5,b6,b7⟩:=f;obtain⟨⟨c1,c2,c3⟩,c4,c5,c6,c7⟩:=g;unfold sgV ee tC;simp only at A0 F0 G0 B0 ⊢;have cD:=yz (fun W=>BG b1 b2 b3 c1 c2 c3 a1 a2 a3 W);have cE:=yz (fun W=>BG b5 b6 b7 c5 c6 c7 a5 a6 a7 W);generalize tD b1 b2 b3 c1 c2 c3 a1 a2 a3=d1 at *;generalize tD b5 b6 b7 c5 c6 c7 a5 a6 a7=d2 at *;have cO:=yz (fun W=>oP d1 0 W);have cP:=yz (fun W=>oP d2 0 W);generalize ip d1 0=o1 at *;generalize ip d2 0=o2 at *;go_enter Tryz.func225,Tryz.ntmps225;go_wp2_with fail;generalize ((w.alloc (.cells #[J Y a1,J Y a2,J Y a3,J Y a4,J Y a5,J Y a6,J Y a7] 299)).alloc (.cells #[J Y b1,J Y b2,J Y b3,J Y b4,J Y b5,J Y b6,J Y b7] 299)).alloc (.cells #[J Y c1,J Y c2,J Y c3,J Y c4,J Y c5,J Y c6,J Y c7] 299)=W0 at A0 F0 G0 B0 ⊢;refine(yx cD _).mono ?_;rintro e w1 ⟨rfl,hx⟩;have A1:=A0.kept hx;have F1:=F0.kept hx;have G1:=G0.kept hx;have B1:=aj B0 hx;clear hx A0 F0 G0 B0;go_wp2_with fail;refine(yx cO _).mono ?_;rintro e w2 ⟨rfl,rfl⟩;obtain⟨x0,x1,x2,x3,x4,x5,x6⟩:=A1;obtain⟨y0,y1,y2,y3,y4,y5,y6⟩:=F1;obtain⟨z0,z1,z2,z3,z4,z5,z6⟩:=G1;simp only[Nat.zero_add]at x0 x1 x2 x3 x4 x5 x6 y0 y1 y2 y3 y4 y5 y6 z0 z1 z2 z3 z4 z5 z6;go_wp2_with fail;refine(yx cE _).mono ?_;rintro e w3 ⟨rfl,hx⟩;have B2:=aj B1 hx;clear hx x0 x1 x2 x3 x4 x5 x6 y0 y1 y2 y3 y4 y5 y6 z0 z1 z2 z3 z4 z5 z6 B1;go_wp2_with fail;refine(yx cP _).mono ?_;rintro e w4 ⟨rfl,rfl⟩;go_wp2_with fail;go_ret;exact⟨by first | rfl | simp[go_sem],B2⟩
theorem lc(A:List Sg)(n:Nat)(s:Sg)(a:Option Addr)(c:Nat)(w:World)(hn:n≤1048576)(hcap:n≤c)(hc9:c≤9223372036854775807)(hS:fG w a A n):
  Calls Tryz.prog 218 #[sgV s,.slice a n c] w fun e w'=>e=.returned (.bool (eQ A s n))∧Below w.heap.size w w':=by
 have cF:Hid (∀(t:Sg) (W:World),Calls Tryz.prog 224 #[sgV s,sgV t] W fun e w'=>e=.returned (.bool (kP s t))∧Below W.heap.size W w'):=yz (fun t W=>yi s t W);have cS:Hid (∀(f g:Sg) (W:World),Calls Tryz.prog 225 #[sgV s,sgV f,sgV g] W fun e w'=>e=.returned (.bool (ee s f g))∧Below W.heap.size W w'):=yz (fun f g W=>wm s f g W);have V0:=yz (gD w s 299);have B0:=yz (ak w (.cells #[J Y s.1.1,J Y s.1.2.1,J Y s.1.2.2,J Y s.2.1,J Y s.2.2.1,J Y s.2.2.2.1,J Y s.2.2.2.2] 299));obtain⟨⟨a1,a2,a3⟩,a4,a5,a6,a7⟩:=s;simp only at V0 B0;have cF':Hid (∀(t:Sg) (W:World),Calls Tryz.prog 224 #[.agg #[J Y a1,J Y a2,J Y a3,J Y a4,J Y a5,J Y a6,J Y a7],sgV t] W fun e w'=>e=.returned (.bool (kP ((a1,a2,a3),a4,a5,a6,a7) t))∧Below W.heap.size W w'):=cF;have cS':Hid (∀(f g:Sg) (W:World),Calls Tryz.prog 225 #[.agg #[J Y a1,J Y a2,J Y a3,J Y a4,J Y a5,J Y a6,J Y a7],sgV f,sgV g] W fun e w'=>e=.returned (.bool (ee ((a1,a2,a3),a4,a5,a6,a7) f g))∧Below W.heap.size W w'):=cS;clear cF cS;show Calls Tryz.prog 218 #[.agg #[J Y a1,J Y a2,J Y a3,J Y a4,J Y a5,J Y a6,J Y a7],.slice a n c] w _;rcases hS with rfl | ⟨b,o,rfl,hb,hc⟩
 ·go_enter Tryz.func218,Tryz.ntmps218;go_wp2_with fail;refine wp_loop_rounds 1 ?_;rw[rounds_succ];go_wp2_with fail;go_ret;exact⟨rfl,yx B0⟩
 have HC:=yz hc;clear hc;obtain⟨sg,hsg⟩:∃sg:Sg,sg=((a1,a2,a3),a4,a5,a6,a7):=⟨_,rfl⟩
 rw[←hsg]at cF' cS' V0;rw[←hsg];have HSG:=yz hsg;clear hsg;go_enter Tryz.func218,Tryz.ntmps218;go_wp2_with fail;go_loopw [11] (fun i wr=>∃k:Nat,k≤n∧i=J Y k∧Hid (∀j,j<k→fp A sg j=true)∧Hid (Below w.heap.size w wr)∧Hid (qV wr w.heap.size 0 sg)) (fun i _=>n-(intOf i).toNat)
 case atStart=>exact⟨0,by omega,rfl,yz (fun j hj=>absurd hj (Nat.not_lt_zero _)),B0,V0⟩
 case round=>
  clear B0 V0;obtain⟨k,hk,rfl,HF,HB,HV⟩:=hrel;by_cases hkn:k<n
  ·have hkn2:(k:Int)<(n:Int):=by omega
   obtain⟨t,ht⟩:∃t,sgA A k=t:=⟨_,rfl⟩
   have hst:=((yx HC) k hkn).kept (yx HB);rw[ht]at hst;have HT:=yz ht;clear ht;have cFt:=yz (yx cF' t);have cSt:=yz (fun f W=>yx cS' f t W);have HFA:Hid (∀b,kP sg t=b→kP sg (sgA A k)=b):=yz (fun b h=>by rw[yx HT];exact h);have HID:Hid (sg.2.1=a4):=yz (by rw[yx HSG]);have HTI:Hid ((sgA A k).2.1=t.2.1):=yz (by rw[yx HT]);have Z:=ak wr (.cells #[J Y t.1.1,J Y t.1.2.1,J Y t.1.2.2,J Y t.2.1,J Y t.2.2.1,J Y t.2.2.2.1,J Y t.2.2.2.2] 299);have T1:=yz (gD wr t 299);have HB1:=aA HB Z;have HV1:=an HV Z;clear Z HB HV;obtain⟨⟨b1,b2,b3⟩,b4,b5,b6,b7⟩:=t;have cFt':Hid (∀(W:World),Calls Tryz.prog 224 #[.agg #[J Y a1,J Y a2,J Y a3,J Y a4,J Y a5,J Y a6,J Y a7],.agg #[J Y b1,J Y b2,J Y b3,J Y b4,J Y b5,J Y b6,J Y b7]] W fun e w'=>e=.returned (.bool (kP sg ((b1,b2,b3),b4,b5,b6,b7)))∧Below W.heap.size W w'):=cFt;have cSt':Hid (∀(f:Sg) (W:World),Calls Tryz.prog 225 #[.agg #[J Y a1,J Y a2,J Y a3,J Y a4,J Y a5,J Y a6,J Y a7],sgV f,.agg #[J Y b1,J Y b2,J Y b3,J Y b4,J Y b5,J Y b6,J Y b7]] W fun e w'=>e=.returned (.bool (ee sg f ((b1,b2,b3),b4,b5,b6,b7)))∧Below W.heap.size W w'):=cSt;clear cFt cSt;have HTI':Hid ((sgA A k).2.1=b4):=HTI;clear HTI;obtain⟨c0,c1,c2,c3,c4,c5,c6⟩:=hst;simp only at c0 c1 c2 c3 c4 c5 c6 T1 HB1 HV1;obtain⟨tg,htg⟩:∃sg:Sg,sg=((b1,b2,b3),b4,b5,b6,b7):=⟨_,rfl⟩
   rw[←htg]at cFt' cSt' T1 HFA HT;have HTG:=yz htg;clear htg;obtain⟨v0,v1,v2,v3,v4,v5,v6⟩:=yx HV1;obtain⟨x0,x1,x2,x3,x4,x5,x6⟩:=yx T1;rw[yx HSG]at v0 v1 v2 v3 v4 v5 v6;rw[yx HTG]at x0 x1 x2 x3 x4 x5 x6;simp only[Nat.zero_add]at v0 v1 v2 v3 v4 v5 v6 x0 x1 x2 x3 x4 x5 x6;by_cases hid:a4=b4
   ·subst hid;have HNO:=yz (vW (A:=A) (s:=sg) hkn (DE (by rw[yx HID,yx HTI'])));go_wp2_with fail;go_ret;exact⟨by rw[yx HNO];rfl,yx HB1⟩
   have hid':(a4==b4)=false:=by simp[hid]
   go_wp2_with fail;clear c0 c1 c2 c3 c4 c5 c6 v0 v1 v2 v3 v4 v5 v6 x0 x1 x2 x3 x4 x5 x6;generalize wr.alloc (.cells #[J Y b1,J Y b2,J Y b3,J Y b4,J Y b5,J Y b6,J Y b7] 299)=W1 at T1 HB1 HV1 ⊢;generalize wr.heap.size=tb at *;refine(yx cFt' _).mono ?_;rintro e W2 ⟨rfl,hx⟩;have T2:=an T1 hx;have HB2:=aA HB1 hx;have HV2:=an HV1 hx;clear hx T1 HB1 HV1;cases hfar:kP sg tg
   ·have HNO:=yz (vW (A:=A) (s:=sg) hkn (As (yx HFA _ hfar)));go_wp2_with fail;go_ret;exact⟨by rw[yx HNO];rfl,yx HB2⟩
   have HFT:=yz (yx HFA _ hfar);have hkc:(k:Int)≤(c:Int):=by omega
   clear hfar HFA cFt';go_wp2_with fail;go_loopw [33] (fun i wr=>∃j:Nat,j≤k∧i=J Y j∧Hid (∀l,l<j→ee sg (sgA A l) tg=true)∧Hid (Below w.heap.size w wr)∧Hid (qV wr w.heap.size 0 sg)∧Hid (qV wr tb 0 tg)) (fun i _=>k-(intOf i).toNat)
   case atStart=>exact⟨0,by omega,rfl,yz (fun j hj=>absurd hj (Nat.not_lt_zero _)),HB2,HV2,T2⟩
   case round=>
    clear HB2 HV2 T2;obtain⟨j,hj,rfl,HL,HB,HV,HT2⟩:=hrel;by_cases hjk:j<k
    ·have hjk2:(j:Int)<(k:Int):=by omega
     obtain⟨f,hf⟩:∃t,sgA A j=t:=⟨_,rfl⟩
     have hst:=((yx HC) j (by omega)).kept (yx HB);rw[hf]at hst;have HFE:=yz hf;clear hf;have cSf:=yz (yx cSt' f);have Z:=ak wr (.cells #[J Y f.1.1,J Y f.1.2.1,J Y f.1.2.2,J Y f.2.1,J Y f.2.2.1,J Y f.2.2.2.1,J Y f.2.2.2.2] 299);have F1:=gD wr f 299;have HB1:=aA HB Z;have HV1:=an HV Z;have HT3:=an HT2 Z;clear Z HB HV HT2;have HSB:Hid (ee sg (sgA A j) tg=ee sg f tg):=yz (by rw[yx HFE]);have HSC:Hid (ee sg (sgA A j) (sgA A k)=ee sg f tg):=yz (by rw[yx HFE,yx HT]);have cSg:Hid (∀(W:World),Calls Tryz.prog 225 #[.agg #[J Y a1,J Y a2,J Y a3,J Y a4,J Y a5,J Y a6,J Y a7],sgV f,.agg #[J Y b1,J Y b2,J Y b3,J Y b4,J Y b5,J Y b6,J Y b7]] W fun e w'=>e=.returned (.bool (ee sg f tg))∧Below W.heap.size W w'):=cSf;clear cSf;generalize ee sg f tg=sb at *;obtain⟨⟨f1,f2,f3⟩,f4,f5,f6,f7⟩:=f;have cSh:Hid (∀(W:World),Calls Tryz.prog 225 #[.agg #[J Y a1,J Y a2,J Y a3,J Y a4,J Y a5,J Y a6,J Y a7],.agg #[J Y f1,J Y f2,J Y f3,J Y f4,J Y f5,J Y f6,J Y f7],.agg #[J Y b1,J Y b2,J Y b3,J Y b4,J Y b5,J Y b6,J Y b7]] W fun e w'=>e=.returned (.bool sb)∧Below W.heap.size W w'):=cSg;clear cSg;obtain⟨c0,c1,c2,c3,c4,c5,c6⟩:=hst;simp only at c0 c1 c2 c3 c4 c5 c6 F1 HB1 HV1 HT3;obtain⟨v0,v1,v2,v3,v4,v5,v6⟩:=yx HV1;obtain⟨x0,x1,x2,x3,x4,x5,x6⟩:=yx HT3;obtain⟨y0,y1,y2,y3,y4,y5,y6⟩:=F1;rw[yx HSG]at v0 v1 v2 v3 v4 v5 v6;rw[yx HTG]at x0 x1 x2 x3 x4 x5 x6;simp only[Nat.zero_add]at v0 v1 v2 v3 v4 v5 v6 x0 x1 x2 x3 x4 x5 x6 y0 y1 y2 y3 y4 y5 y6;go_wp2_with fail;clear c0 c1 c2 c3 c4 c5 c6 v0 v1 v2 v3 v4 v5 v6 x0 x1 x2 x3 x4 x5 x6 y0 y1 y2 y3 y4 y5 y6;refine(yx cSh _).mono ?_;rintro e W4 ⟨rfl,hx⟩;have HB4:=aA HB1 hx;have HV4:=an HV1 hx;have HT4:=an HT3 hx;clear hx HB1 HV1 HT3;cases sb
     ·have HNO:=yz (vW (A:=A) (s:=sg) hkn (yF hjk (yx HSC)));go_wp2_with fail;go_ret;exact⟨by rw[yx HNO];rfl,yx HB4⟩
     ·go_wp2_with fail;go_roundw
      case rel=>exact⟨j+1,by omega,by go_num,yz (fun l hl=>by
       by_cases e:l=j
       ·rw[e];exact yx HSB
       ·exact yx HL l (by omega)),HB4,HV4,HT4⟩
      case measure=>simp[intOf];omega
    ·have hjk':j=k:=by omega
     subst hjk';have HOK:Hid (fp A sg j=true):=yz (At (by rw[yx HID,yx HTI'];exact hid) (yx HFT) (fun l hl=>by rw[yx HT];exact yx HL l hl));go_wp2_with fail;go_roundw
     case rel=>exact⟨j+1,by omega,by go_num,yz (fun l hl=>by
      by_cases e:l=j
      ·rw[e];exact yx HOK
      ·exact yx HF l (by omega)),HB,HV⟩
     case measure=>simp[intOf];omega
  ·have hkn':k=n:=by omega
   subst hkn';have HY:=yz (EO (A:=A) (s:=sg) (yx HF));go_wp2_with fail;go_ret;exact⟨by rw[yx HY];rfl,yx HB⟩
end
end Go.Proofs.YteoonaanoenjiaaGreatDoor
