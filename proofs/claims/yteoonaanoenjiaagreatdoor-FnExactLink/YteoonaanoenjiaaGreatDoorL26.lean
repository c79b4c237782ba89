/- Several texts in one: NaD. -/
import Derived.Test.YteoonaanoenjiaaGreatDoorL25
import Derived.Test.YteoonaanoenjiaaGreatDoorL18
namespace Go.Proofs.YteoonaanoenjiaaGreatDoor
set_option linter.unusedVariables false
set_option linter.unusedSimpArgs false
set_option maxRecDepth 100000
set_option maxHeartbeats 8000000
section
open Go.Value renaming int → J
open Go.IntKind renaming i64 → Y
open Go.RowKit Go.Sort
theorem CI{p q r:D3}(hp:ax p.1 p.2.1 p.2.2=true)(hq:ax q.1 q.2.1 q.2.2=true)(hr:ax r.1 r.2.1 r.2.2=true):
  tC p q r=bX (crW p.2.1 p.2.2 q.2.1 q.2.2) (crW p.2.2 p.1 q.2.2 q.1) (crW p.1 p.2.1 q.1 q.2.1) r.1 r.2.1 r.2.2:=by
 unfold tC tD;rw[hp,hq,hr];rfl
theorem uu(p q r:D3)(hp:ax p.1 p.2.1 p.2.2=true)(hq:ax q.1 q.2.1 q.2.2=true)(hr:ax r.1 r.2.1 r.2.2=true):∃(x1 x2 x3 d:Int),
  Hid (∀W:World,Calls Tryz.prog 138 #[.agg #[J Y p.1,J Y p.2.1,J Y p.2.2],.agg #[J Y q.1,J Y q.2.1,J Y q.2.2]] W fun e w'=>e=.returned (.agg #[J Y x1,J Y x2,J Y x3])∧Below W.heap.size W w')
  ∧ Hid (∀W:World,Calls Tryz.prog 139 #[.agg #[J Y x1,J Y x2,J Y x3],.agg #[J Y r.1,J Y r.2.1,J Y r.2.2]] W fun e w'=>e=.returned (J Y d)∧Below W.heap.size W w')
  ∧ Hid (∀W:World,Calls Tryz.prog 215 #[J Y d] W fun e w'=>e=.returned (J Y (ip (tC p q r) 0))∧Below W.heap.size W w'):=by
 refine⟨_,_,_,_,yz (fun W=>nF _ _ _ _ _ _ W),yz (fun W=>gU _ _ _ _ _ _ W),yz (fun W=>(eF _ W).mono fun e w' h=>?_)⟩;obtain⟨he,hw⟩:=h;refine⟨?_,by rw[hw];exact Below.refl _ _⟩;rw[he,CI hp hq hr];rfl
theorem EH(p q r s:D3)(hp:jY p=true)(hq:jY q=true)(hr:aN r.1 r.2.1 r.2.2=true)(hs:aN s.1 s.2.1 s.2.2=true)(W:World):
  Calls Tryz.prog 214 #[.agg #[J Y p.1,J Y p.2.1,J Y p.2.2],.agg #[J Y q.1,J Y q.2.1,J Y q.2.2],.agg #[J Y r.1,J Y r.2.1,J Y r.2.2],.agg #[J Y s.1,J Y s.2.1,J Y s.2.2]] W fun e w'=>e=.returned (J Y (oy p.1 p.2.1 p.2.2 q.1 q.2.1 q.2.2 r.1 r.2.1 r.2.2 s.1 s.2.1 s.2.2))∧Below W.heap.size W w':=by
 rw[He hp hq hr hs];exact Af _ _ _ _ _ _ _ _ _ _ _ _ W
def ju(L:List St)(S:List D3)(ids:List Int)(s:Sg)(i:Nat):Bool:=decide (ids.getD i 0=0) || (decide (s.2.1≠ids.getD i 0)&&kP s (bY L S ids i)&&(List.range i).all (fun j=>decide (ids.getD j 0=0) || ee s (bY L S ids j) (bY L S ids i)))
variable {ids:List Int} {i j:Nat}
theorem CL{L:List St}{S:List D3}{s:Sg}{n:Nat}(h:∀i,i<n→ju L S ids s i=true):jH L S ids s n=true:=by
 unfold jH;rw[List.all_eq_true];exact fun i hi=>h i (List.mem_range.1 hi)
theorem rq{L:List St}{S:List D3}{s:Sg}{n:Nat}(hi:i<n)(h:ju L S ids s i=false):jH L S ids s n=false:=by
 unfold jH;rw[List.all_eq_false];exact⟨i,List.mem_range.2 hi,by unfold ju at h;rw[h];simp⟩
theorem AL{L:List St}{S:List D3}{s:Sg}(h:ids.getD i 0=0):ju L S ids s i=true:=by unfold ju;rw[decide_eq_true h,Bool.true_or]
theorem AJ{L:List St}{S:List D3}{s:Sg}(h:ids.getD i 0≠0)(h1:s.2.1=ids.getD i 0):ju L S ids s i=false:=by
 unfold ju;rw[decide_eq_false h,Bool.false_or,show decide (s.2.1≠ids.getD i 0)=false from decide_eq_false (fun g=>g h1)];rfl
theorem DZ{L:List St}{S:List D3}{s:Sg}(h:ids.getD i 0≠0)(h1:kP s (bY L S ids i)=false):ju L S ids s i=false:=by
 unfold ju;rw[decide_eq_false h,Bool.false_or,h1,Bool.and_false];rfl
theorem AK{L:List St}{S:List D3}{s:Sg}(h:ids.getD i 0≠0)(hj:j<i)(h0:ids.getD j 0≠0)(h1:ee s (bY L S ids j) (bY L S ids i)=false):ju L S ids s i=false:=by
 unfold ju
 have:((List.range i).all fun j=>decide (ids.getD j 0=0) || ee s (bY L S ids j) (bY L S ids i))=false:=by
  rw[List.all_eq_false];exact⟨j,List.mem_range.2 hj,by rw[decide_eq_false h0,h1];simp⟩
 rw[decide_eq_false h,Bool.false_or,this,Bool.and_false]
theorem Ef{L:List St}{S:List D3}{s:Sg}(h1:s.2.1≠ids.getD i 0)(h2:kP s (bY L S ids i)=true)(h3:∀j,j<i→(decide (ids.getD j 0=0) || ee s (bY L S ids j) (bY L S ids i))=true):ju L S ids s i=true:=by
 unfold ju;rw[decide_eq_true h1,h2,show ((List.range i).all fun j=>decide (ids.getD j 0=0) || ee s (bY L S ids j) (bY L S ids i))=true from List.all_eq_true.2 (fun j hj=>h3 j (List.mem_range.1 hj))];simp
def qQ(L:List St)(S:List D3)(ids:List Int)(s:Sg)(i j:Nat):Prop:=∀l,l<j→(decide (ids.getD l 0=0) || ee s (bY L S ids l) (bY L S ids i))=true
theorem mY{L:List St}{S:List D3}{s:Sg}(h:qQ L S ids s i j)(h1:(decide (ids.getD j 0=0) || ee s (bY L S ids j) (bY L S ids i))=true):qQ L S ids s i (j+1):=fun l hl=>by
 by_cases e:l=j
 ·rw[e];exact h1
 ·exact h l (by omega)
theorem AG(L:List St)(S:List D3)(ids:List Int)(s:Sg)(i:Nat):qQ L S ids s i 0:=fun j hj=>absurd hj (Nat.not_lt_zero _)
theorem ym(L:List St)(S:List D3)(ids:List Int)(k:Nat)(id:Int)(ar br ir:Option Addr)(cr dr er:Nat)(w:World)(hk6:k≤6)(hn:L.length≤12)(hS:aH w ar L L.length)(hD:bi w br S (k+1))(hI:ij w ir ids k)
  (hwd:∀i,i≤k→jY (vA S i)=true) (hid:aN (atV L L.length id).1 (atV L L.length id).2.1 (atV L L.length id).2.2=true) (hids:∀i,i<k→ids.getD i 0≠0→aN (atV L L.length (ids.getD i 0)).1 (atV L L.length (ids.getD i 0)).2.1 (atV L L.length (ids.getD i 0)).2.2=true) :
  Calls Tryz.prog 198 #[.slice ar L.length cr,.slice br (k+1) dr,.slice ir k er,J Y id] w fun e w'=>e=.returned (.bool (jH L S ids (vA S k,(id,atV L L.length id)) k))∧Below w.heap.size w w':=by
 have cA:=yz (fun (W:World) (q:Int) hW=>uP L L.length q ar cr W (by omega) hW);have HS:=yz hS;have HD:=yz hD;have HWD:=yz hwd;have HDS:=yz hids;have HSO:Hid (∀i,bY L S ids i=(vA S i,(ids.getD i 0,atV L L.length (ids.getD i 0)))):=yz (fun i=>rfl);clear hS hD hwd hids;obtain⟨⟨p1,p2,p3⟩,hp⟩:∃p,vA S k=p:=⟨_,rfl⟩
 obtain⟨⟨q1,q2,q3⟩,hq⟩:∃p,atV L L.length id=p:=⟨_,rfl⟩
 obtain⟨sg,hsg⟩:∃sg:Sg,sg=((p1,p2,p3),(id,q1,q2,q3)):=⟨_,rfl⟩
 have cV:=yz (fun (W:World) hW=>yx cA W id hW);rw[hq]at hid cV;have HWK:Hid (jY (p1,p2,p3)=true):=yz (by rw[←hp];exact yx HWD k (Nat.le_refl _));have HIDS:=yz hid;rw[hp,hq,←hsg];have HSG:=yz hsg;have HP:=yz hp;clear hp hq hsg hid;generalize L.length=n at *;go_enter Tryz.func198,Tryz.ntmps198;go_wp2_with fail;refine(yx cV _ (yx HS)).mono ?_;rintro e W1 ⟨rfl,hx⟩;unfold Bm;simp only;have Z:=ak W1 (.cells #[J Y q1,J Y q2,J Y q3] 111);have HB1:=yz (aj hx Z);have HV1:=yz (aG W1 q1 q2 q3 111);clear hx Z cV;go_wp2_with fail;generalize W1.alloc (.cells #[J Y q1,J Y q2,J Y q3] 111)=W2 at HB1 HV1 ⊢;generalize W1.heap.size=vb at *;rcases hI with h0 | ⟨ib,io,rfl,hib,hic⟩
 ·subst h0;refine wp_loop_rounds 1 ?_;rw[rounds_succ];go_wp2_with fail;go_ret;exact⟨rfl,yx HB1⟩
 have HIC:=yz hic;clear hic;rcases yx HD with h | ⟨bb,bo,rfl,hbb,hbc⟩
 ·omega
 have HBC:=yz hbc;clear hbc;go_loopw [11] (fun kk wr=>∃i:Nat,i≤k∧kk=J Y i∧Hid (∀j,j<i→ju L S ids sg j=true)∧Hid (aD wr vb q1 q2 q3)∧Hid (Below w.heap.size w wr)) (fun kk _=>k-(intOf kk).toNat)
 case atStart=>exact⟨0,by omega,rfl,yz (fun j hj=>absurd hj (Nat.not_lt_zero _)),HV1,HB1⟩
 case round=>
  clear HV1 HB1;obtain⟨i,hi,rfl,HF,HV,HB⟩:=hrel;by_cases hik:i<k
  ·have hik2:(i:Int)<(k:Int):=by omega
   have ci:wr.cell? ⟨ib,io+i,none⟩=some (J Y (ids.getD i 0)):=by rw[(yx HB).cell (p:=⟨ib,io+i,none⟩) hib];exact yx HIC i hik
   have HSI:=yz (yx HSO i);obtain⟨x,hxi⟩:∃x,ids.getD i 0=x:=⟨_,rfl⟩
   rw[hxi]at ci HSI;have HX:=yz hxi;clear hxi;by_cases hx0:x=0
   ·subst hx0;have HOK:=yz (AL (L:=L) (S:=S) (s:=sg) (yx HX));go_wp2_with fail;go_roundw
    case rel=>exact⟨i+1,by omega,by go_num,yz (fun l hl=>by
     by_cases e:l=i
     ·rw[e];exact yx HOK
     ·exact yx HF l (by omega)),HV,HB⟩
    case measure=>simp[intOf]<;>omega
   have hx0':(x==0)=false:=by simp[hx0]
   have HXN:Hid (ids.getD i 0≠0):=yz (by rw[yx HX];exact hx0);by_cases hxd:x=id
   ·subst hxd;have HNO:=yz (rq hik (AJ (L:=L) (S:=S) (s:=sg) (yx HXN) (by rw[yx HX,yx HSG])));go_wp2_with fail;go_ret;exact⟨by rw[yx HNO];rfl,yx HB⟩
   have hxd':(x==id)=false:=by simp[hxd]
   have HDX:Hid (sg.2.1≠ids.getD i 0):=yz (by rw[yx HX,yx HSG];exact fun e=>hxd e.symm);have cW:=yz (fun (W:World) hW=>yx cA W x hW);have hsmx:=yx HDS i hik (yx HXN);rw[yx HX]at hsmx;obtain⟨⟨w1,w2,w3⟩,hwv⟩:∃p,atV L n x=p:=⟨_,rfl⟩
   rw[hwv]at cW hsmx HSI;clear hwv;obtain⟨⟨s1,s2,s3⟩,hsv⟩:∃p,vA S i=p:=⟨_,rfl⟩
   have HSVI:=yz hsv;rw[hsv]at HSI;have hwi:=yx HWD i (by omega);rw[hsv]at hwi;clear hsv;go_wp2_with fail;refine(yx cW _ ((yx HS).kept (yx HB))).mono ?_;rintro e W3 ⟨rfl,hx⟩;unfold Bm;simp only;have Z:=ak W3 (.cells #[J Y w1,J Y w2,J Y w3] 111);have HB3:=aA (aA HB hx) Z;have HV3:=yz (((yx HV).kept (oj (yx HV)) hx).kept (Nat.lt_of_lt_of_le (oj (yx HV)) hx.size) Z);have HW3:=yz (aG W3 w1 w2 w3 111);clear hx Z cW ci HB HV;go_wp2_with fail;generalize W3.alloc (.cells #[J Y w1,J Y w2,J Y w3] 111)=W4 at HB3 HV3 HW3 ⊢;generalize W3.heap.size=wb at *;have hsp:=(yx HBC i (by omega)).kept hbb (yx HB3);have hpp:=(yx HBC k (by omega)).kept hbb (yx HB3);rw[yx HSVI]at hsp;rw[yx HP]at hpp;have cC:=yz (fun W=>EH (s1,s2,s3) (p1,p2,p3) (w1,w2,w3) (q1,q2,q3) hwi (yx HWK) hsmx (yx HIDS) W);have HFA:Hid (kP sg (bY L S ids i)=decide (oy s1 s2 s3 p1 p2 p3 w1 w2 w3 q1 q2 q3=0)):=yz (by rw[yx HSI,yx HSG];rfl);generalize oy s1 s2 s3 p1 p2 p3 w1 w2 w3 q1 q2 q3=cv at *;simp only at cC;obtain⟨c0,c1,c2⟩:=hsp;obtain⟨d0,d1,d2⟩:=hpp;obtain⟨e0,e1,e2⟩:=yx HV3;obtain⟨f0,f1,f2⟩:=yx HW3;have rc0:=cell_regrown c0;have rc1:=cell_regrown c1;have rc2:=cell_regrown c2;have rd0:=cell_regrown d0;have rd1:=cell_regrown d1;have rd2:=cell_regrown d2;have re0:=cell_regrown e0;have re1:=cell_regrown e1;have re2:=cell_regrown e2;have rf0:=cell_regrown f0;have rf1:=cell_regrown f1;have rf2:=cell_regrown f2;clear c0 c1 c2 d0 d1 d2 e0 e1 e2 f0 f1 f2;have hik3:(i:Int)<(k:Int)+1:=by omega
   have hkk3:(k:Int)<(k:Int)+1:=by omega
   refine bQ ?_;repeat (go_big_quiet_step (with_reducible first | exact aC cC))
   refine bW fun dq osq=>?_;have hx:=below_regrown W4 dq osq;have HB5:=aA HB3 hx;have HV5:=yz ((yx HV3).kept (oj (yx HV3)) hx);have HW5:=yz ((yx HW3).kept (oj (yx HW3)) hx);generalize grow (redrawn W4 dq) osq=W5 at hx HB5 HV5 HW5 ⊢;clear hx rc0 rc1 rc2 rd0 rd1 rd2 re0 re1 re2 rf0 rf1 rf2 cC HB3 HV3 HW3;by_cases hcv:cv≠0
   ·have hcv':(cv==0)=false:=by simp[hcv]
    have HNO:=yz (rq hik (DZ (L:=L) (S:=S) (s:=sg) (yx HXN) (by rw[yx HFA];exact decide_eq_false hcv)));go_wp2_with fail;go_ret;exact⟨by rw[yx HNO];rfl,yx HB5⟩
   have hcv0:cv=0:=Decidable.not_not.1 hcv;subst hcv0;clear hcv;have HFT:Hid (kP sg (bY L S ids i)=true):=yz (by rw[yx HFA];rfl);clear HFA;go_wp2_with fail;go_loopw [13] (fun kk wr=>∃j:Nat,j≤i∧kk=J Y j∧Hid (qQ L S ids sg i j)∧Hid (aD wr vb q1 q2 q3)∧Hid (aD wr wb w1 w2 w3)∧Hid (Below w.heap.size w wr)) (fun kk _=>i-(intOf kk).toNat)
   case atStart=>exact⟨0,by omega,rfl,yz (AG _ _ _ _ _),HV5,HW5,HB5⟩
   case round=>
    clear HV5 HW5 HB5;obtain⟨j,hj,rfl,HL,HV,HW,HB⟩:=hrel;by_cases hji:j<i
    ·have hji2:(j:Int)<(i:Int):=by omega
     have hjk2:(j:Int)<(k:Int):=by omega
     have ci:wr.cell? ⟨ib,io+j,none⟩=some (J Y (ids.getD j 0)):=by rw[(yx HB).cell (p:=⟨ib,io+j,none⟩) hib];exact yx HIC j (by omega)
     have HSJ:=yz (yx HSO j);obtain⟨y,hyi⟩:∃x,ids.getD j 0=x:=⟨_,rfl⟩
     rw[hyi]at ci HSJ;have HY:=yz hyi;clear hyi;by_cases hy0:y=0
     ·subst hy0;have HOK:Hid ((decide (ids.getD j 0=0) || ee sg (bY L S ids j) (bY L S ids i))=true):=yz (by rw[yx HY];rfl);go_wp2_with fail;go_roundw
      case rel=>exact⟨j+1,by omega,by go_num,yz (mY (yx HL) (yx HOK)),HV,HW,HB⟩
      case measure=>simp[intOf]<;>omega
     have hy0':(y==0)=false:=by simp[hy0]
     have HYN:Hid (ids.getD j 0≠0):=yz (by rw[yx HY];exact hy0);have cU:=yz (fun (W:World) hW=>yx cA W y hW);have hsmy:=yx HDS j (by omega) (yx HYN);rw[yx HY]at hsmy;obtain⟨⟨u1,u2,u3⟩,huv⟩:∃p,atV L n y=p:=⟨_,rfl⟩
     rw[huv]at cU hsmy HSJ;clear huv;obtain⟨⟨t1,t2,t3⟩,htv⟩:∃p,vA S j=p:=⟨_,rfl⟩
     have HTVJ:=yz htv;rw[htv]at HSJ;have hwj:=yx HWD j (by omega);rw[htv]at hwj;clear htv;go_wp2_with fail;refine(yx cU _ ((yx HS).kept (yx HB))).mono ?_;rintro e W6 ⟨rfl,hx⟩;unfold Bm;simp only;have Z:=ak W6 (.cells #[J Y u1,J Y u2,J Y u3] 111);have HB6:=aA (aA HB hx) Z;have HV6:=yz (((yx HV).kept (oj (yx HV)) hx).kept (Nat.lt_of_lt_of_le (oj (yx HV)) hx.size) Z);have HW6:=yz (((yx HW).kept (oj (yx HW)) hx).kept (Nat.lt_of_lt_of_le (oj (yx HW)) hx.size) Z);have HU6:=yz (aG W6 u1 u2 u3 111);clear hx Z cU ci HB HV HW;go_wp2_with fail;generalize W6.alloc (.cells #[J Y u1,J Y u2,J Y u3] 111)=W7 at HB6 HV6 HW6 HU6 ⊢;generalize W6.heap.size=ub at *;have hsp:=(yx HBC i (by omega)).kept hbb (yx HB6);have htp:=(yx HBC j (by omega)).kept hbb (yx HB6);have hpp:=(yx HBC k (by omega)).kept hbb (yx HB6);rw[yx HSVI]at hsp;rw[yx HTVJ]at htp;rw[yx HP]at hpp;obtain⟨x1,x2,x3,dd,cX,cY,cZ⟩:=uu (t1,t2,t3) (s1,s2,s3) (p1,p2,p3) (fU hwj).1 (fU hwi).1 (fU (yx HWK)).1;obtain⟨y1,y2,y3,d2,cX2,cY2,cZ2⟩:=uu (u1,u2,u3) (w1,w2,w3) (q1,q2,q3) (dD hsmy).1 (dD hsmx).1 (dD (yx HIDS)).1;have HSB:Hid (ee sg (bY L S ids j) (bY L S ids i)=decide (ip (tC (t1,t2,t3) (s1,s2,s3) (p1,p2,p3)) 0=ip (tC (u1,u2,u3) (w1,w2,w3) (q1,q2,q3)) 0)):=yz (by rw[yx HSI,yx HSJ,yx HSG];rfl);generalize ip (tC (t1,t2,t3) (s1,s2,s3) (p1,p2,p3)) 0=o1 at *;generalize ip (tC (u1,u2,u3) (w1,w2,w3) (q1,q2,q3)) 0=o2 at *;simp only at cX cY cZ cX2 cY2 cZ2;obtain⟨c0,c1,c2⟩:=hsp;obtain⟨d0,d1,d2'⟩:=hpp;obtain⟨e0,e1,e2⟩:=yx HV6;obtain⟨f0,f1,f2⟩:=yx HW6;obtain⟨g0,g1,g2⟩:=yx HU6;obtain⟨h0,h1,h2⟩:=htp;have rc0:=cell_regrown c0;have rc1:=cell_regrown c1;have rc2:=cell_regrown c2;have rd0:=cell_regrown d0;have rd1:=cell_regrown d1;have rd2:=cell_regrown d2';have re0:=cell_regrown e0;have re1:=cell_regrown e1;have re2:=cell_regrown e2;have rf0:=cell_regrown f0;have rf1:=cell_regrown f1;have rf2:=cell_regrown f2;have rg0:=cell_regrown g0;have rg1:=cell_regrown g1;have rg2:=cell_regrown g2;have rh0:=cell_regrown h0;have rh1:=cell_regrown h1;have rh2:=cell_regrown h2;clear c0 c1 c2 d0 d1 d2' e0 e1 e2 f0 f1 f2 g0 g1 g2 h0 h1 h2;have hjk3:(j:Int)<(k:Int)+1:=by omega
     refine bQ ?_;repeat (go_big_quiet_step (with_reducible first | exact aC cX | exact aC cY | exact aC cZ | exact aC cX2 | exact aC cY2 | exact aC cZ2))
     refine bW fun dq osq=>?_;have hx:=below_regrown W7 dq osq;have HB8:=aA HB6 hx;have HV8:=yz ((yx HV6).kept (oj (yx HV6)) hx);have HW8:=yz ((yx HW6).kept (oj (yx HW6)) hx);generalize grow (redrawn W7 dq) osq=W8 at hx HB8 HV8 HW8 ⊢;clear hx rc0 rc1 rc2 rd0 rd1 rd2 re0 re1 re2 rf0 rf1 rf2 rg0 rg1 rg2 rh0 rh1 rh2 cX cY cZ cX2 cY2 cZ2 HB6 HV6 HW6 HU6;by_cases ho:o1=o2
     ·subst ho;have HOK:Hid ((decide (ids.getD j 0=0) || ee sg (bY L S ids j) (bY L S ids i))=true):=yz (by rw[yx HSB];simp);go_wp2_with fail;go_roundw
      case rel=>first | exact⟨j+1,by omega,by go_num,yz (mY (yx HL) (yx HOK)),HV8,HW8,HB8⟩ | exact⟨j+1,by omega,by omega,yz (mY (yx HL) (yx HOK))⟩
      case measure=>simp[intOf]<;>omega
     ·have ho':(o1==o2)=false:=by simp[ho]
      have HNO:=yz (rq hik (AK (L:=L) (S:=S) (s:=sg) (yx HXN) hji (yx HYN) (by rw[yx HSB];exact decide_eq_false ho)));go_wp2_with fail;go_ret;exact⟨by rw[yx HNO];rfl,yx HB8⟩
    ·have hji':j=i:=by omega
     subst hji';have HOK:=yz (Ef (yx HDX) (yx HFT) (yx HL));go_wp2_with fail;go_roundw
     case rel=>exact⟨j+1,by omega,by go_num,yz (fun l hl=>by
      by_cases e:l=j
      ·rw[e];exact yx HOK
      ·exact yx HF l (by omega)),HV,HB⟩
     case measure=>simp[intOf]<;>omega
  ·have hik':i=k:=by omega
   subst hik';have HY:=yz (CL (yx HF));go_wp2_with fail;go_ret;exact⟨by rw[yx HY];rfl,yx HB⟩
theorem ij.less{w:World}{a:Option Addr}{L:List Int}{n m:Nat}(h:ij w a L n)(hm:m≤n):ij w a L m:=by
 rcases h with h | ⟨b,o,ha,hb,hc⟩
 ·exact .inl (by omega)
 ·exact .inr ⟨b,o,ha,hb,fun i hi=>hc i (by omega)⟩
end
end Go.Proofs.YteoonaanoenjiaaGreatDoor
