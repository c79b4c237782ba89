/- Several texts in one: ObB, LkA, TfA, TfB, TfC, LkB. -/
import Derived.Test.YteoonaanoenjiaaGreatDoorL41
namespace Go.Proofs.YteoonaanoenjiaaGreatDoor
set_option linter.unusedVariables false
set_option linter.unusedSimpArgs false
set_option maxRecDepth 100000
set_option maxHeartbeats 8000000
section
open Go.RowKit Go.Sort
theorem zG(P:List D3)(v:D3)(j:Nat):eA P v (j+1)=(eA P v j || bS v (vA P j)):=by
 unfold eA;rw[List.range_succ,List.any_append];simp
def AB(R:List D3):Prop:=∀j,j<R.length→ax (vA R j).1 (vA R j).2.1 (vA R j).2.2=true
theorem CK{R:List D3}(h:AB R)(i k:Nat)(hi:i≤R.length)(hk:k<(aY R i).length):ax (vA (aY R i) k).1 (vA (aY R i) k).2.1 (vA (aY R i) k).2.2=true:=by
 obtain⟨j,hj,e⟩:=zX R i k hk;rw[e];exact h j (by omega)
theorem nS{x y z:Int}(h:ax x y z=true):aM 1000000 x y z=true:=by
 unfold ax at h;rw[Bool.and_eq_true]at h;exact h.1
theorem Ah(R:List D3)(a1:Option Addr)(c1:Nat)(w:World)(hn8:R.length≤8)(hR:AB R)(hD:bi w a1 R R.length)(hA:∀y,a1=some y→y.block<w.heap.size):
  Calls Tryz.prog 65 #[.slice a1 R.length c1] w fun e w'=>(∃v,e=.returned v∧w'.ownsRow w.heap.size 111 3 v (gA R).length (bJ (gA R)))∧Below w.heap.size w w':=by
 obtain⟨i0,hinf,hz0,hz1,hz2⟩:=info_parts nE;have hm8:400≤maxLen:=by decide +kernel
 have Z0:=ak w (.cells #[] 111);have HST:Hid (kT w (w.alloc (.cells #[] 111)) w.heap.size a1 R):=yz ⟨hD.kept Z0,hA,Nat.le_refl _,Z0.size,Z0⟩;have HO:Hid ((w.alloc (.cells #[] 111)).ownsRow w.heap.size 111 3 (.slice (some ⟨w.heap.size,0,none⟩) 0 0) (aY R 0).length (bJ (aY R 0))):=yz (uZ w _ (Nat.le_refl _));have HR:=yz hR;clear Z0 hD hA hR;obtain⟨n,hn⟩:∃n,R.length=n:=⟨_,rfl⟩
 have HN:=yz hn;rw[hn]at hn8 ⊢;clear hn;go_enter Tryz.func65,Tryz.ntmps65;go_wp2_with fail;go_loopw [3,4] (fun v kk wr=>∃k:Nat,k≤n∧kk=.int .i64 k∧Hid (wr.ownsRow w.heap.size 111 3 v (aY R k).length (bJ (aY R k)))∧Hid (kT w wr w.heap.size a1 R)) (fun _ kk _=>n-(intOf kk).toNat)
 case atStart=>exact⟨0,by omega,rfl,HO,HST⟩
 case round=>
  clear HO HST;obtain⟨k,hk,rfl,HO,HST⟩:=hrel;obtain⟨a3,c3,rfl⟩:=bM (yx HO);obtain⟨m,hm⟩:∃m,(aY R k).length=m:=⟨_,rfl⟩
  have HM:=yz hm;have hfl:=(qE R k).1;rw[hm]at hfl HO ⊢;by_cases hkn:k<n
  ·have hkn2:(k:Int)<(n:Int):=by omega
   have hdk:decide ((k:Int)<(n:Int))=true:=decide_eq_true hkn2;by_cases h6:m<6
   ·have h6':(m:Int)<6:=by omega
    have hd:decide ((m:Int)<6)=true:=decide_eq_true h6';obtain⟨b,o,ha,c0,c1',c2⟩:=lM (yx HST).dirs (show k<R.length by rw[yx HN];exact hkn);subst ha;have HA:=yz (fun h1 h2=>vU (L:=R) (i:=k) h1 h2);have HS:=yz (fun h1=>xS (L:=R) (i:=k) h1);have HQ:=yz (fun j hj=>CK (yx HR) k j (by rw[yx HN];exact hk) hj);have hqw:=yx HR k (by rw[yx HN];exact hkn);obtain⟨⟨q1,q2,q3⟩,hq⟩:∃q,vA R k=q:=⟨_,rfl⟩
    rw[hq]at HA HS c0 c1' c2 hqw;dsimp only at c0 c1' c2 hqw;have HW:=yz hqw;obtain⟨P2,hP2⟩:∃P2,aY R (k+1)=P2:=⟨_,rfl⟩
    rw[hP2]at HA HS;have HP:=yz hP2;have HK0:=yz hq;clear hP2 hq hqw hm;generalize aY R k=P at *;clear c0 c1' c2;go_wp2_with fail;have HMm:=yz (show (wr.ownsRow w.heap.size 111 3 (.slice a3 P.length c3) P.length (bJ P)) by rw[yx HM];exact yx HO);go_loopw [5,6] (fun sm jj wi=>∃(j:Nat) (x:Bool),j≤m∧jj=.int .i64 j∧sm=.bool x∧Hid (x=eA P (q1,q2,q3) j)∧Hid (wi.ownsRow w.heap.size 111 3 (.slice a3 P.length c3) P.length (bJ P))∧Hid (kT w wi w.heap.size (some ⟨b,o,none⟩) R)) (fun _ jj _=>m-(intOf jj).toNat)
    case atStart=>exact⟨0,false,by omega,rfl,rfl,yz rfl,HMm,HST⟩
    case round=>
     clear HMm HO HST;obtain⟨j,x,hj,rfl,rfl,HX,HO,HST⟩:=hrel;obtain⟨b0,o0,ha,e0,e1,e2⟩:=lM (yx HST).dirs (show k<R.length by rw[yx HN];exact hkn);obtain⟨rfl,rfl⟩:b=b0∧o=o0:=by simpa using ha
     rw[yx HK0]at e0 e1 e2;dsimp only at e0 e1 e2;by_cases hjm:j<m
     ·have hjm2:(j:Int)<(m:Int):=by omega
      have HX2:=yz (zG P (q1,q2,q3) j);obtain⟨hdir,_⟩:=iG (yx HO);obtain⟨b4,o4,ha4,g0,g1,g2⟩:=lM hdir (show j<P.length by rw[yx HM];exact hjm);subst ha4;have hpr:=yx HQ j (by rw[yx HM];exact hjm);obtain⟨⟨p1,p2,p3⟩,hp⟩:∃q,vA P j=q:=⟨_,rfl⟩
      rw[hp]at g0 g1 g2 hpr HX2;dsimp only at g0 g1 g2 hpr;have cS:=yz (fun W=>iT (p1,p2,p3) (q1,q2,q3) W (nS hpr) (nS (yx HW)));dsimp only at cS;generalize bS (q1,q2,q3) (p1,p2,p3)=y at cS HX2;have r0:=cell_regrown g0;have r1:=cell_regrown g1;have r2:=cell_regrown g2;have t0:=cell_regrown e0;have t1:=cell_regrown e1;have t2:=cell_regrown e2;clear g0 g1 g2 e0 e1 e2 hp hpr hdir ha;go_wp2_with fail;refine bQ ?_;cases x
      ·repeat (go_big_quiet_step (with_reducible first | exact aC cS))
       refine bW fun dq osq=>?_;have hx:=below_regrown wr dq osq;generalize grow (redrawn wr dq) osq=W2 at hx ⊢;have HO2:=yz (aW (yx HO) hx);have HST2:=an HST hx;have HX3:Hid (y=eA P (q1,q2,q3) (j+1)):=yz (by rw[yx HX2,←yx HX];rfl);clear hx cS HO HST HX HX2 r0 r1 r2 t0 t1 t2;go_wp2_with fail;go_roundw
       case rel=>exact⟨j+1,_,by omega,by go_num,rfl,HX3,HO2,HST2⟩
       case measure=>simp[intOf]<;>omega
      ·repeat (go_big_quiet_step (with_reducible first | exact aC cS))
       refine bW fun dq osq=>?_;have hx:=below_regrown wr dq osq;generalize grow (redrawn wr dq) osq=W2 at hx ⊢;have HO2:=yz (aW (yx HO) hx);have HST2:=an HST hx;have HX3:Hid (true=eA P (q1,q2,q3) (j+1)):=yz (by rw[yx HX2,←yx HX];rfl);clear hx cS HO HST HX HX2 r0 r1 r2 t0 t1 t2;go_wp2_with fail;go_roundw
       case rel=>exact⟨j+1,_,by omega,by go_num,rfl,HX3,HO2,HST2⟩
       case measure=>simp[intOf]<;>omega
     ·have hjm':j=m:=by omega
      subst hjm';have hown0:=yx HO;rw[yx HM]at hown0;cases x
      ·have Z1:=ak wr (.cells #[.int .i64 q1,.int .i64 q2,.int .i64 q3] 111);have hown:=aW hown0 Z1;have ST4:=(yx HST).kept Z1;have HP2:=yz (yx HA (by rw[yx HM];exact h6) (by rw[yx HM];exact(yx HX).symm));clear Z1 HO HST HA HS hown0 ha;go_wp2_with (at_builtin;refine wpList_append_own _ rfl _ _ 42 rfl w.heap.size 111 i0 (.agg #[.int .i64 0,.int .i64 0,.int .i64 0]) 3 24 Tryz.underlying42 hinf hz0 hz1 hz2 rfl (by decide) _ _ _ rfl hown ⟨wr.heap.size,0,none⟩ 1 1 (bJ [(q1,q2,q3)]) rfl rfl ?d2 (fun u hu=>kj hu) ?d3 ?d4 ?d5 ?_)
       case d2=>first | exact fun j u h=>h | exact fk _ _ _
       case d3=>omega
       case d4=>omega
       case d5=>have:=ST4.room;omega
       intro v7 V7 hown7 hgrow7 _;have HST5:=yz (ST4.row hgrow7 (fun g e=>(hown.lt g e).1));have HO5:Hid (V7.ownsRow w.heap.size 111 3 v7 (aY R (k+1)).length (bJ (aY R (k+1)))):=yz (by rw[yx HP,yx HP2,lN,List.length_append,yx HM];exact hown7);clear hown7 hgrow7 hown ST4 e0 e1 e2 HP2;go_wp2_with fail;go_roundw
       case rel=>exact⟨k+1,by omega,by go_num,HO5,HST5⟩
       case measure=>simp[intOf]<;>omega
      ·have HP2:=yz (yx HS (by rw[yx HM];exact(yx HX).symm));have HO5:Hid (wr.ownsRow w.heap.size 111 3 (.slice a3 j c3) (aY R (k+1)).length (bJ (aY R (k+1)))):=yz (by rw[yx HP,yx HP2,yx HM];exact hown0);clear HO HA HS hown0 ha HP2;go_wp2_with fail;go_roundw
       case rel=>exact⟨k+1,by omega,by go_num,HO5,HST⟩
       case measure=>simp[intOf]<;>omega
   ·have h6':¬(m:Int)<6:=by omega
    have hd:decide ((m:Int)<6)=false:=decide_eq_false h6';have hst:=xU (L:=R) (i:=k) (by rw[hm];exact h6) R.length (by rw[yx HN];exact hk);have HFS:Hid (gA R=aY R k):=yz hst;clear hst hm;go_wp2_with fail;go_ret;refine⟨⟨_,rfl,?_⟩,(yx HST).bel⟩;rw[yx HFS,yx HM];exact yx HO
  ·have hkn':k=n:=by omega
   subst hkn';have hdk:decide ((k:Int)<(k:Int))=false:=decide_eq_false (by omega);have HFS:Hid (gA R=aY R k):=yz (by unfold gA;rw[yx HN]);clear hm;go_wp2_with fail;go_ret;refine⟨⟨_,rfl,?_⟩,(yx HST).bel⟩;rw[yx HFS,yx HM];exact yx HO
end
section
open Go.Value renaming int → J
open Go.IntKind renaming i64 → Z
open Go.RowKit Go.Sort
def GD(t:Tk)(p q r s:Int):Tk:={ t with mode:=1,A:=p,B:=q,C:=r,D:=s,coast:=0 }
def bz(t:Tk):Tk:=if t.mode=0 then t else if t.lim<t.coast+1 then Fi t else { t with mode:=2,coast:=t.coast+1 }
theorem nQ(T:Array Value)(X:World)(b:Nat)(v:Value)(lim mode A B C D coast fr:Int)(hT:T.getD 2 undef=.pointer (some ⟨b,0,none⟩))(h:dk X b v lim mode A B C D coast fr):(results Tryz.f152 T).run Tryz.prog X=.ok (.agg #[v,J Z lim,J Z mode,J Z A,J Z B,J Z C,J Z D,J Z coast,J Z fr]) X:=by
 obtain⟨h0,h1,h2,h3,h4,h5,h6,h7,h8⟩:=h;simp only[Array.getD_eq_getD_getElem?]at hT;simp[results,Tryz.results152,go_sem,hT,h0,h1,h2,h3,h4,h5,h6,h7,h8]
theorem kE(lim mode A B C D coast fr p q r s:Int)(a:Option Addr)(n c:Nat)(w:World):
  Calls Tryz.prog 150 #[.agg #[.slice a n c,J Z lim,J Z mode,J Z A,J Z B,J Z C,J Z D,J Z coast,J Z fr],.agg #[J Z p,J Z q,J Z r,J Z s]] w fun e w'=>e=.returned (.agg #[.slice a n c,J Z lim,J Z 1,J Z p,J Z q,J Z r,J Z s,J Z 0,J Z fr])∧Below w.heap.size w w':=by
 go_enter Tryz.func150,Tryz.ntmps150;go_wp2_with fail;go_region
 go_wp2;exact bodyPost_ret (v:=.agg #[.slice a n c,J Z lim,J Z 1,J Z p,J Z q,J Z r,J Z s,J Z 0,J Z fr]) (by simp[results,Tryz.results150,go_sem]) rfl ⟨rfl,(bq _ _ _ _).drew⟩
theorem kw(lim mode A B C D coast fr p q r s:Int)(a:Option Addr)(n c:Nat)(w:World):
  Calls Tryz.prog 142 #[.agg #[.slice a n c,J Z lim,J Z mode,J Z A,J Z B,J Z C,J Z D,J Z coast,J Z fr],.agg #[J Z p,J Z q,J Z r,J Z s]] w fun e w'=>e=.returned (.agg #[.slice a n c,J Z lim,J Z 1,J Z p,J Z q,J Z r,J Z s,J Z 0,J Z fr,J Z 0])∧Below w.heap.size w w':=by
 go_enter Tryz.func142,Tryz.ntmps142;go_wp2;exact bodyPost_ret (v:=.agg #[.slice a n c,J Z lim,J Z 1,J Z p,J Z q,J Z r,J Z s,J Z 0,J Z fr,J Z 0]) (by simp[results,Tryz.results142,go_sem]) rfl ⟨rfl,bq _ _ _ _⟩
theorem xt(L:List St)(lim mode A B C D coast fr:Int)(a:Option Addr)(n c:Nat)(w:World)(hm:mode=0∨mode=1∨mode=2)(hc0:0≤coast)(hc5:coast≤1000):
  Calls Tryz.prog 152 #[.agg #[.slice a n c,J Z lim,J Z mode,J Z A,J Z B,J Z C,J Z D,J Z coast,J Z fr]] w fun e w'=>e=.returned (tkV a n c (bz ⟨L,lim,mode,A,B,C,D,coast,fr⟩))∧Below w.heap.size w w':=by
 have hw:wrap64 (coast+1)=coast+1:=aq (by omega) (by omega);rcases hm with rfl | rfl | rfl
 ·have HO:Hid (tkV a n c (bz ⟨L,lim,0,A,B,C,D,coast,fr⟩)=.agg #[.slice a n c,J Z lim,J Z 0,J Z A,J Z B,J Z C,J Z D,J Z coast,J Z fr]):=yz (by unfold bz tkV;rw[if_pos rfl]);go_enter Tryz.func152,Tryz.ntmps152;go_wp2;rw[yx HO];exact bodyPost_ret (v:=.agg #[.slice a n c,J Z lim,J Z 0,J Z A,J Z B,J Z C,J Z D,J Z coast,J Z fr]) (by simp[results,Tryz.results152,go_sem]) rfl ⟨rfl,aF _ _ _⟩
 ·by_cases hl:lim<coast+1
  ·have HO:Hid (tkV a n c (bz ⟨L,lim,1,A,B,C,D,coast,fr⟩)=.agg #[.slice a n c,J Z lim,J Z 0,J Z 0,J Z 0,J Z 0,J Z 0,J Z 0,J Z fr]):=yz (by unfold bz tkV;rw[if_neg (by show ¬(1:Int)=0;omega),if_pos hl];rfl);have B0:=yz (aF w (.cells #[.slice a n c,J Z lim,J Z 2,J Z A,J Z B,J Z C,J Z D,J Z (coast+1),J Z fr] 92) (.cells #[.slice none 0 0,J Z 0,J Z 0,J Z 0,J Z 0,J Z 0,J Z 0,J Z 0,J Z 0] 92));have R0:=yz (by simpa using ap (w.alloc (.cells #[.slice a n c,J Z lim,J Z 2,J Z A,J Z B,J Z C,J Z D,J Z (coast+1),J Z fr] 92)) [.slice none 0 0,J Z 0,J Z 0,J Z 0,J Z 0,J Z 0,J Z 0,J Z 0,J Z 0] 92:Blk ((w.alloc (.cells #[.slice a n c,J Z lim,J Z 2,J Z A,J Z B,J Z C,J Z D,J Z (coast+1),J Z fr] 92)).alloc (.cells #[.slice none 0 0,J Z 0,J Z 0,J Z 0,J Z 0,J Z 0,J Z 0,J Z 0,J Z 0] 92)) (w.heap.size+1) [.slice none 0 0,J Z 0,J Z 0,J Z 0,J Z 0,J Z 0,J Z 0,J Z 0,J Z 0] 92);go_enter Tryz.func152,Tryz.ntmps152;go_wp2_with fail;refine(mc lim 2 A B C D (coast+1) fr a n c _).mono ?_;rintro e w1 ⟨rfl,hx⟩;have B1:=aA B0 hx;have R1:=an R0 hx;clear hx B0 R0;obtain⟨r0,r1,r2,r3,r4,r5,r6,r7,r8⟩:=dO (yx R1);have g0:=kO (yx R1);go_wp2_with fail;rw[yx HO];refine bodyPost_ret (v:=.agg #[.slice a n c,J Z lim,J Z 0,J Z 0,J Z 0,J Z 0,J Z 0,J Z 0,J Z fr]) ?_ rfl ⟨rfl,?_⟩
   ·exact nQ _ _ (w.heap.size+1) _ lim 0 0 0 0 0 0 fr rfl (dU (u:=.slice none 0 0) ⟨r0,r1,r2,r3,r4,r5,r6,r7,r8⟩ _ lim 0 0 0 0 0 0 fr)
   ·iterate 9 (refine aB ?_ (show w.heap.size≤w.heap.size+1 by omega) _ _)
    exact yx B1
  ·have HO:Hid (tkV a n c (bz ⟨L,lim,1,A,B,C,D,coast,fr⟩)=.agg #[.slice a n c,J Z lim,J Z 2,J Z A,J Z B,J Z C,J Z D,J Z (coast+1),J Z fr]):=yz (by unfold bz tkV;rw[if_neg (by show ¬(1:Int)=0;omega),if_neg hl]);go_enter Tryz.func152,Tryz.ntmps152;go_wp2;rw[yx HO];exact bodyPost_ret (v:=.agg #[.slice a n c,J Z lim,J Z 2,J Z A,J Z B,J Z C,J Z D,J Z (coast+1),J Z fr]) (by simp[results,Tryz.results152,go_sem]) rfl ⟨rfl,aF _ _ _⟩
 ·by_cases hl:lim<coast+1
  ·have HO:Hid (tkV a n c (bz ⟨L,lim,2,A,B,C,D,coast,fr⟩)=.agg #[.slice a n c,J Z lim,J Z 0,J Z 0,J Z 0,J Z 0,J Z 0,J Z 0,J Z fr]):=yz (by unfold bz tkV;rw[if_neg (by show ¬(2:Int)=0;omega),if_pos hl];rfl);have B0:=yz (aF w (.cells #[.slice a n c,J Z lim,J Z 2,J Z A,J Z B,J Z C,J Z D,J Z (coast+1),J Z fr] 92) (.cells #[.slice none 0 0,J Z 0,J Z 0,J Z 0,J Z 0,J Z 0,J Z 0,J Z 0,J Z 0] 92));have R0:=yz (by simpa using ap (w.alloc (.cells #[.slice a n c,J Z lim,J Z 2,J Z A,J Z B,J Z C,J Z D,J Z (coast+1),J Z fr] 92)) [.slice none 0 0,J Z 0,J Z 0,J Z 0,J Z 0,J Z 0,J Z 0,J Z 0,J Z 0] 92:Blk ((w.alloc (.cells #[.slice a n c,J Z lim,J Z 2,J Z A,J Z B,J Z C,J Z D,J Z (coast+1),J Z fr] 92)).alloc (.cells #[.slice none 0 0,J Z 0,J Z 0,J Z 0,J Z 0,J Z 0,J Z 0,J Z 0,J Z 0] 92)) (w.heap.size+1) [.slice none 0 0,J Z 0,J Z 0,J Z 0,J Z 0,J Z 0,J Z 0,J Z 0,J Z 0] 92);go_enter Tryz.func152,Tryz.ntmps152;go_wp2_with fail;refine(mc lim 2 A B C D (coast+1) fr a n c _).mono ?_;rintro e w1 ⟨rfl,hx⟩;have B1:=aA B0 hx;have R1:=an R0 hx;clear hx B0 R0;obtain⟨r0,r1,r2,r3,r4,r5,r6,r7,r8⟩:=dO (yx R1);have g0:=kO (yx R1);go_wp2_with fail;rw[yx HO];refine bodyPost_ret (v:=.agg #[.slice a n c,J Z lim,J Z 0,J Z 0,J Z 0,J Z 0,J Z 0,J Z 0,J Z fr]) ?_ rfl ⟨rfl,?_⟩
   ·exact nQ _ _ (w.heap.size+1) _ lim 0 0 0 0 0 0 fr rfl (dU (u:=.slice none 0 0) ⟨r0,r1,r2,r3,r4,r5,r6,r7,r8⟩ _ lim 0 0 0 0 0 0 fr)
   ·iterate 9 (refine aB ?_ (show w.heap.size≤w.heap.size+1 by omega) _ _)
    exact yx B1
  ·have HO:Hid (tkV a n c (bz ⟨L,lim,2,A,B,C,D,coast,fr⟩)=.agg #[.slice a n c,J Z lim,J Z 2,J Z A,J Z B,J Z C,J Z D,J Z (coast+1),J Z fr]):=yz (by unfold bz tkV;rw[if_neg (by show ¬(2:Int)=0;omega),if_neg hl]);go_enter Tryz.func152,Tryz.ntmps152;go_wp2;rw[yx HO];exact bodyPost_ret (v:=.agg #[.slice a n c,J Z lim,J Z 2,J Z A,J Z B,J Z C,J Z D,J Z (coast+1),J Z fr]) (by simp[results,Tryz.results152,go_sem]) rfl ⟨rfl,aF _ _ _⟩
end
section
open Go.Value renaming int → J
open Go.IntKind renaming i64 → Y
open Go.RowKit Go.Sort
theorem vT(A:List Sg)(n:Nat)(t:T4)(a:Option Addr)(c:Nat)(w:World)(hl:A.length=n)(hn:n≤1048576)(ht:aE t.1 t.2.1 t.2.2.1 t.2.2.2=true)(hsm:∀i,i<n→aN (sgA A i).2.2.1 (sgA A i).2.2.2.1 (sgA A i).2.2.2.2=true)(hS:fG w a A n):
  Calls Tryz.prog 206 #[.agg #[J Y t.1,J Y t.2.1,J Y t.2.2.1,J Y t.2.2.2],.slice a n c] w fun e w'=>e=.returned (.bool (dI A t))∧Below w.heap.size w w':=by
 have HNO:Hid (∀i,i<n→dW t (sgA A i)=false→dI A t=false):=yz (fun i hi h=>Hj (by omega) h);have HYE:Hid ((∀i,i<n→dW t (sgA A i)=true)→dI A t=true):=yz (fun h=>EM (by rw[hl];exact h));have HSM:=yz hsm;have HT:=yz ht;have HBR:Hid (∀s,dW t s=bS s.1 (apD t.1 t.2.1 t.2.2.1 t.2.2.2 s.2.2)):=yz (fun s=>rfl);clear hl hsm ht;generalize dI A t=R at *;generalize dW t=br at *;obtain⟨t1,t2,t3,t4⟩:=t;simp only at HT HBR ⊢;have V0:=yz (bh w t1 t2 t3 t4 35);have B0:=yz (ak w (.cells #[J Y t1,J Y t2,J Y t3,J Y t4] 35));rcases hS with rfl | ⟨b,o,rfl,hb,hc⟩
 ·have HY:=yz (yx HYE (fun i hi=>absurd hi (Nat.not_lt_zero _)));go_enter Tryz.func206,Tryz.ntmps206;go_wp2_with fail;refine wp_loop_rounds 1 ?_;rw[rounds_succ];go_wp2_with fail;go_ret;exact⟨by rw[yx HY];rfl,yx B0⟩
 have HC:=yz hc;clear hc;go_enter Tryz.func206,Tryz.ntmps206;go_wp2_with fail;go_loopw [9] (fun i wr=>∃k:Nat,k≤n∧i=J Y k∧Hid (∀j,j<k→br (sgA A j)=true)∧Hid (Below w.heap.size w wr)∧Hid (bd wr w.heap.size t1 t2 t3 t4)) (fun i _=>n-(intOf i).toNat)
 case atStart=>exact⟨0,by omega,rfl,yz (fun j hj=>absurd hj (Nat.not_lt_zero _)),B0,V0⟩
 case round=>
  clear B0 V0;obtain⟨k,hk,rfl,HF,HB,HV⟩:=hrel;by_cases hkn:k<n
  ·have hkn2:(k:Int)<(n:Int):=by omega
   have hsmk:=yx HSM k hkn;have HBK:=yz (yx HBR (sgA A k));have HNK:=yz (yx HNO k hkn);obtain⟨s,hs⟩:∃t,sgA A k=t:=⟨_,rfl⟩
   have hst:=((yx HC) k hkn).kept (yx HB);rw[hs]at hst hsmk HBK HNK;have HSE:=yz hs;clear hs;have cA:=yz (fun W=>po t1 t2 t3 t4 s.2.2 W (yx HT) hsmk);clear hsmk;have Z:=ak wr (.cells #[J Y s.1.1,J Y s.1.2.1,J Y s.1.2.2,J Y s.2.1,J Y s.2.2.1,J Y s.2.2.2.1,J Y s.2.2.2.2] 299);have T1:=gD wr s 299;have HB1:=aA HB Z;have HV1:=yz ((yx HV).kept (yx HV).lt Z);clear Z HB HV;generalize apD t1 t2 t3 t4 s.2.2=q at *;obtain⟨q1,q2,q3⟩:=q;obtain⟨⟨b1,b2,b3⟩,b4,b5,b6,b7⟩:=s;have cS:Hid (∀W:World,Calls Tryz.prog 156 #[.agg #[J Y b1,J Y b2,J Y b3],.agg #[J Y q1,J Y q2,J Y q3]] W fun e w'=>e=.returned (.bool (bS (b1,b2,b3) (q1,q2,q3)))∧Below W.heap.size W w'):=yz (fun W=>jt b1 b2 b3 q1 q2 q3 W);simp only at HBK cA T1 HB1 HV1;generalize bS (b1,b2,b3) (q1,q2,q3)=sm at *;obtain⟨c0,c1,c2,c3,c4,c5,c6⟩:=hst;simp only at c0 c1 c2 c3 c4 c5 c6;go_wp2_with fail;clear c0 c1 c2 c3 c4 c5 c6;generalize wr.alloc (.cells #[J Y b1,J Y b2,J Y b3,J Y b4,J Y b5,J Y b6,J Y b7] 299)=W4 at T1 HB1 HV1 ⊢;generalize wr.heap.size=tb at *;obtain⟨x0,x1,x2,x3,x4,x5,x6⟩:=T1;simp only[Nat.zero_add]at x0 x1 x2 x3 x4 x5 x6;obtain⟨y0,y1,y2,y3⟩:=yx HV1;have r0:=cell_regrown x0;have r1:=cell_regrown x1;have r2:=cell_regrown x2;have r4:=cell_regrown x4;have r5:=cell_regrown x5;have r6:=cell_regrown x6;have s0:=cell_regrown y0;have s1:=cell_regrown y1;have s2:=cell_regrown y2;have s3:=cell_regrown y3;clear x0 x1 x2 x3 x4 x5 x6 y0 y1 y2 y3;refine bQ ?_;repeat (go_big_quiet_step (with_reducible first | exact aC cA | exact aC cS))
   refine bW fun dq osq=>?_;have hx:=below_regrown W4 dq osq;have HB5:=aA HB1 hx;have HV5:=yz ((yx HV1).kept (yx HV1).lt hx);generalize grow (redrawn W4 dq) osq=W5 at hx HB5 HV5 ⊢;clear hx r0 r1 r2 r4 r5 r6 s0 s1 s2 s3 cA cS HB1 HV1;cases sm
   ·have HN:=yz (yx HNK (yx HBK));go_wp2_with fail;go_ret;exact⟨by rw[yx HN];rfl,yx HB5⟩
   ·have HOK:Hid (br (sgA A k)=true):=yz (by rw[yx HSE];exact yx HBK);go_wp2_with fail;go_roundw
    case rel=>exact⟨k+1,by omega,by go_num,yz (fun l hl=>by
     by_cases e:l=k
     ·rw[e];exact yx HOK
     ·exact yx HF l (by omega)),HB5,HV5⟩
    case measure=>simp[intOf];omega
  ·have hkn':k=n:=by omega
   subst hkn';have HY:=yz (yx HYE (yx HF));go_wp2_with fail;go_ret;exact⟨by rw[yx HY];rfl,yx HB⟩
def outV(r:T4×Int):Value:=.agg #[J Y r.1.1,J Y r.1.2.1,J Y r.1.2.2.1,J Y r.1.2.2.2,J Y r.2]
theorem ff{w w1:World}{b:Nat}(h:Below w.heap.size w w1)(hb:w.heap.size≤b)(x y z u v:Value):Below w.heap.size w (((((w1.setCell ⟨b,0,none⟩ x).setCell ⟨b,1,none⟩ y).setCell ⟨b,2,none⟩ z).setCell ⟨b,3,none⟩ u).setCell ⟨b,4,none⟩ v):=((((h.setCell hb _).setCell hb _).setCell hb _).setCell hb _).setCell hb _
theorem ql(L:List St)(S:List D3)(ids:List Int)(ar br ir:Option Addr)(cr dr er:Nat)(p:Addr)(w:World)(hn:L.length≤1048576)(hcap:L.length≤cr)(hc9:cr≤9223372036854775807)(hn2:S.length≤1048576)(hcap2:S.length≤dr)(hd9:dr≤9223372036854775807)(hn3:ids.length≤1048576)(hS:aH w ar L L.length)(hD:bi w br S S.length)(hI:ij w ir ids ids.length)(hE:bm p w):
  Calls Tryz.prog 185 #[.slice ar L.length cr,.slice br S.length dr,.slice ir ids.length er] w fun e w'=>e=.returned (outV (kl L S ids))∧Below w.heap.size w w':=by
 have cN:=yz (fun (W:World) h1 h2 h3 h4=>tG L S ids ar br ir cr dr er p W hn hcap hc9 hn2 hcap2 hd9 hn3 h1 h2 h3 h4)
 have cO:Hid (bN L S ids=true→∀W:World,aH W ar L L.length→bi W br S S.length→ij W ir ids ids.length→bm p W→Calls Tryz.prog 204 #[.slice ar L.length cr,.slice br S.length dr,.slice ir ids.length er] W fun e w'=>(∃v,e=.returned v∧w'.ownsRow W.heap.size 299 7 v (au L S ids ids.length).length (dp (au L S ids ids.length)))∧Below W.heap.size W w'):=yz (fun h W h1 h2 h3 h4=>by
  obtain⟨g1,g2,g3,_⟩:=gq h
  exact nX L S ids ids.length ar br ir cr dr er p W g1 hn hcap hc9 (bK g2).1 g3 h1 h2 h3 h4)
 have HSM:Hid (bN L S ids=true→∀i,i<(au L S ids ids.length).length→aN (sgA (au L S ids ids.length) i).2.2.1 (sgA (au L S ids ids.length) i).2.2.2.1 (sgA (au L S ids ids.length) i).2.2.2.2=true):=yz (fun h i hi=>yV h hi)
 have HAL:Hid (bN L S ids=true→(au L S ids ids.length).length≤6):=yz (fun h=>by
  obtain⟨g1,g2,g3,_⟩:=gq h;have:=iX L S ids ids.length;have:=(bK g2).1
  omega)
 have H1:Hid (400<L.length∨400<S.length∨400<ids.length→kl L S ids=((0,0,0,0),2)):=yz ER;have H2:Hid (¬(400<L.length∨400<S.length∨400<ids.length)→bN L S ids=false→kl L S ids=((0,0,0,0),1)):=yz EQ;have H3:Hid (¬(400<L.length∨400<S.length∨400<ids.length)→bN L S ids=true→(au L S ids ids.length).length<2→kl L S ids=((0,0,0,0),10)):=yz Hm;have H4:Hid (¬(400<L.length∨400<S.length∨400<ids.length)→bN L S ids=true→¬(au L S ids ids.length).length<2→kl L S ids=fZ (au L S ids ids.length) (az 625)):=yz CO;have HS:=yz hS;have HD:=yz hD;have HI:=yz hI;have HE:=yz hE;clear hS hD hI hE hcap hc9 hcap2 hd9;generalize kl L S ids=R at *;generalize bN L S ids=nb at *;generalize au L S ids ids.length=A at *;generalize S.length=m at *;generalize ids.length=k at *;generalize L.length=n at *;have R0:=ap w [J Y 0,J Y 0,J Y 0,J Y 0,J Y 0] 156;have B0:=ak w (.cells #[J Y 0,J Y 0,J Y 0,J Y 0,J Y 0] 156);by_cases hbig:400<n∨400<m∨400<k
 ·obtain rfl:=yx H1 hbig;have h':400<n∨(¬400<n∧400<m)∨(¬400<n∧¬400<m∧400<k):=by omega
  rcases h' with h | ⟨h,h1⟩ | ⟨h,h1,h2⟩
  ·have g1:decide ((400:Int)<(n:Int))=true:=by simp;omega
   have g2:(400:Int)<(n:Int):=by omega
   go_enter Tryz.func185,Tryz.ntmps185;go_wp2_with fail;exact bodyPost_ret (v:=.agg #[J Y 0,J Y 0,J Y 0,J Y 0,J Y 2]) (by simp[results,Tryz.results185,go_sem]) rfl ⟨rfl,ak _ _⟩
  ·have g1:decide ((400:Int)<(n:Int))=false:=by simp;omega
   have g2:¬(400:Int)<(n:Int):=by omega
   have g3:decide ((400:Int)<(m:Int))=true:=by simp;omega
   have g4:(400:Int)<(m:Int):=by omega
   go_enter Tryz.func185,Tryz.ntmps185;go_wp2_with fail;exact bodyPost_ret (v:=.agg #[J Y 0,J Y 0,J Y 0,J Y 0,J Y 2]) (by simp[results,Tryz.results185,go_sem]) rfl ⟨rfl,ak _ _⟩
  ·have g1:decide ((400:Int)<(n:Int))=false:=by simp;omega
   have g2:¬(400:Int)<(n:Int):=by omega
   have g3:decide ((400:Int)<(m:Int))=false:=by simp;omega
   have g4:¬(400:Int)<(m:Int):=by omega
   have g5:decide ((400:Int)<(k:Int))=true:=by simp;omega
   have g6:(400:Int)<(k:Int):=by omega
   go_enter Tryz.func185,Tryz.ntmps185;go_wp2_with fail;exact bodyPost_ret (v:=.agg #[J Y 0,J Y 0,J Y 0,J Y 0,J Y 2]) (by simp[results,Tryz.results185,go_sem]) rfl ⟨rfl,ak _ _⟩
 have g1:decide ((400:Int)<(n:Int))=false:=by simp;omega
 have g2:¬(400:Int)<(n:Int):=by omega
 have g3:decide ((400:Int)<(m:Int))=false:=by simp;omega
 have g4:¬(400:Int)<(m:Int):=by omega
 have g5:decide ((400:Int)<(k:Int))=false:=by simp;omega
 have g6:¬(400:Int)<(k:Int):=by omega
 go_enter Tryz.func185,Tryz.ntmps185;go_wp2_with fail;generalize w.alloc (.cells #[J Y 0,J Y 0,J Y 0,J Y 0,J Y 0] 156)=W0 at R0 B0 ⊢;refine(yx cN _ ((yx HS).kept B0) ((yx HD).kept B0) ((yx HI).kept B0) ((yx HE).kept B0)).mono ?_;rintro e W1 ⟨rfl,hx⟩;have R1:=R0.kept hx;have B1:=aj B0 hx;clear hx R0 B0;cases nb
 ·obtain rfl:=yx H2 hbig rfl;obtain⟨r0,r1,r2,r3,r4⟩:=gL (R1);have f0:=qa (R1);go_wp2_with fail;exact bodyPost_ret (v:=.agg #[J Y 0,J Y 0,J Y 0,J Y 0,J Y 1]) (by simp[results,Tryz.results185,go_sem,r0,r1,r2,r3,r4]) rfl ⟨rfl,ff B1 (Nat.le_refl _) _ _ _ _ _⟩
 have cO':=yz (yx cO rfl);have HSM':=yz (yx HSM rfl);have hal6:=yx HAL rfl;have H3':=yz (yx H3 hbig rfl);have H4':=yz (yx H4 hbig rfl);clear cO HSM HAL H1 H2 H3 H4 cN hbig g1 g2 g3 g4 g5 g6;go_wp2_with fail;refine(yx cO' _ ((yx HS).kept B1) ((yx HD).kept B1) ((yx HI).kept B1) ((yx HE).kept B1)).mono ?_;rintro e W2 ⟨⟨v2,rfl,ho⟩,hx⟩;obtain⟨a2,c2,rfl⟩:=Fv ho;have HSG:=yz (na ho);have R2:=R1.kept hx;have B2:=aj B1 hx;clear ho hx R1 B1 cO';by_cases h2:A.length<2
 ·obtain rfl:=yx H3' h2;have h2':(A.length:Int)<2:=by omega
  obtain⟨r0,r1,r2,r3,r4⟩:=gL (R2);have f0:=qa (R2);go_wp2_with fail;exact bodyPost_ret (v:=.agg #[J Y 0,J Y 0,J Y 0,J Y 0,J Y 10]) (by simp[results,Tryz.results185,go_sem,r0,r1,r2,r3,r4]) rfl ⟨rfl,ff B2 (Nat.le_refl _) _ _ _ _ _⟩
 have h2':¬(A.length:Int)<2:=by omega
 have HR:=yz (yx H4' h2)
 have cT:Hid (∀W:World,Calls Tryz.prog 205 #[] W fun e w'=>∃g c,e=.returned (.slice (some ⟨g,0,none⟩) (az 625).length c)∧kW w' g (az 625)∧Below W.heap.size W w'):=yz (fun W=>(tI W).mono fun e w' h=>by
  obtain⟨⟨v,he,ho⟩,hb⟩:=h;obtain⟨g,c,rfl,hg,ht⟩:=vC ho tk
  exact⟨g,c,he,ht,hb⟩)
 have HTR:Hid (∀k,k<(az 625).length→aE (tA (az 625) k).1 (tA (az 625) k).2.1 (tA (az 625) k).2.2.1 (tA (az 625) k).2.2.2=true):=yz (fun k hk=>pX hk);have hTL:=mb 625;have cE:Hid (∀(t:T4) (a:Option Addr) (W:World),aE t.1 t.2.1 t.2.2.1 t.2.2.2=true→fG W a A A.length→Calls Tryz.prog 206 #[.agg #[J Y t.1,J Y t.2.1,J Y t.2.2.1,J Y t.2.2.2],.slice a A.length c2] W fun e w'=>e=.returned (.bool (dI A t))∧Below W.heap.size W w'):=yz (fun t a W ht hs=>vT A A.length t a c2 W rfl (by omega) ht (yx HSM') hs);clear HSM' H3' H4' h2;have HF1:Hid (∀k,k<(az 625).length→(∀j,j<k→dI A (tA (az 625) j)=false)→dI A (tA (az 625) k)=true→fZ A (az 625)=(tA (az 625) k,0)):=yz (fun k hk h h1=>xV hk h h1);have HF2:Hid ((∀j,j<(az 625).length→dI A (tA (az 625) j)=false)→fZ A (az 625)=((0,0,0,0),6)):=yz rp;generalize az 625=T at *;generalize hlt:T.length=tn at *;have HTL:=yz hlt;clear hlt;generalize A.length=al at *;go_wp2_with fail;refine(yx cT _).mono ?_;rintro e W3 ⟨g,c3,rfl,ht,hx⟩;have HT3:=yz ht;have HS3:=an HSG hx;have HR3:=yz (R2.kept hx);have HB3:=yz (aj B2 hx);clear ht hx R2 B2 HSG cT;go_wp2_with fail;go_loopw [40] (fun i wr=>∃j:Nat,j≤tn∧i=J Y j∧Hid (∀l,l<j→dI A (tA T l)=false)∧Hid (kW wr g T)∧Hid (fG wr a2 A al)∧Hid (Blk wr w.heap.size [J Y 0,J Y 0,J Y 0,J Y 0,J Y 0] 156)∧Hid (Below w.heap.size w wr)) (fun i _=>tn-(intOf i).toNat)
 case atStart=>exact⟨0,by omega,rfl,yz (fun j hj=>absurd hj (Nat.not_lt_zero _)),HT3,HS3,HR3,HB3⟩
 case round=>
  clear HT3 HS3 HR3 HB3;obtain⟨j,hj,rfl,HF,HT,HS',HRB,HB⟩:=hrel;by_cases hjn:j<tn
  ·have hjn2:(j:Int)<(tn:Int):=by omega
   obtain⟨c0,c1,c2',c3'⟩:=(yx HT).2 j (by rw[yx HTL];exact hjn);have htr:=yx HTR j hjn;have HF1j:=yz (yx HF1 j hjn (yx HF));obtain⟨t,ht⟩:∃t,tA T j=t:=⟨_,rfl⟩
   rw[ht]at c0 c1 c2' c3' htr HF1j;have HTE:=yz ht;clear ht;have cEt:=yz (fun W h=>yx cE t a2 W htr h);clear htr;have HEX:Hid (dI A (tA T j)=dI A t):=yz (by rw[yx HTE]);generalize dI A t=ev at *;obtain⟨t1,t2,t3,t4⟩:=t;simp only at c0 c1 c2' c3' cEt;have Z:=ak wr (.cells #[J Y t1,J Y t2,J Y t3,J Y t4] 35);have TA1:=yz (bh wr t1 t2 t3 t4 35);have HT1:=an HT Z;have HS1:=an HS' Z;have HR1:=an HRB Z;have HB1:=aA HB Z;clear Z HT HS' HRB HB;go_wp2_with fail;clear c0 c1 c2' c3';generalize wr.alloc (.cells #[J Y t1,J Y t2,J Y t3,J Y t4] 35)=W4 at TA1 HT1 HS1 HR1 HB1 ⊢;generalize wr.heap.size=tb at *;refine(yx cEt _ (yx HS1)).mono ?_;rintro e W5 ⟨rfl,hx⟩;have TA2:=yz ((yx TA1).kept (yx TA1).lt hx);have HT2:=an HT1 hx;have HS2:=an HS1 hx;have HR2:=an HR1 hx;have HB2:=aA HB1 hx;clear hx TA1 HT1 HS1 HR1 HB1 cEt;cases ev
   ·go_wp2_with fail;go_roundw
    case rel=>exact⟨j+1,by omega,by go_num,yz (fun l hl=>by
     by_cases e:l=j
     ·rw[e];exact yx HEX
     ·exact yx HF l (by omega)),HT2,HS2,HR2,HB2⟩
    case measure=>simp[intOf];omega
   ·have HRV:Hid (R=((t1,t2,t3,t4),0)):=yz (by rw[yx HR];exact yx HF1j rfl);obtain⟨x0,x1,x2,x3⟩:=yx TA2;obtain⟨r0,r1,r2,r3,r4⟩:=gL (yx HR2);have f0:=qa (yx HR2);go_wp2_with fail;exact bodyPost_ret (v:=.agg #[J Y t1,J Y t2,J Y t3,J Y t4,J Y 0]) (by simp[results,Tryz.results185,go_sem,r0,r1,r2,r3,r4]) rfl ⟨by rw[yx HRV];rfl,ff (yx HB2) (Nat.le_refl _) _ _ _ _ _⟩
  ·have hjn':j=tn:=by omega
   subst hjn';have HRV:Hid (R=((0,0,0,0),6)):=yz (by rw[yx HR];exact yx HF2 (yx HF));obtain⟨r0,r1,r2,r3,r4⟩:=gL (yx HRB);have f0:=qa (yx HRB);go_wp2_with fail;exact bodyPost_ret (v:=.agg #[J Y 0,J Y 0,J Y 0,J Y 0,J Y 6]) (by simp[results,Tryz.results185,go_sem,r0,r1,r2,r3,r4]) rfl ⟨by rw[yx HRV];rfl,ff (yx HB) (Nat.le_refl _) _ _ _ _ _⟩
end
section
open Go.Value renaming int → J
open Go.IntKind renaming i64 → Z
open Go.RowKit Go.Sort
def jb(L:List St)(S:List D3)(ids:List Int)(t:T4)(n:Nat):Prop:=∀j,j<n→(decide (ids.getD j 0=0) || dW t (bY L S ids j))=true
theorem uh{L:List St}{S:List D3}{ids:List Int}{t:T4}{n:Nat}(h:jb L S ids t n)(h1:(decide (ids.getD n 0=0) || dW t (bY L S ids n))=true):jb L S ids t (n+1):=fun l hl=>by
 by_cases e:l=n
 ·rw[e];exact h1
 ·exact h l (by omega)
theorem tN(L:List St)(S:List D3)(ids:List Int)(t:T4)(k:Nat)(ar br ir:Option Addr)(cr dr er:Nat)(w:World)(hk6:k≤6)(hn:L.length≤12)(ht:aE t.1 t.2.1 t.2.2.1 t.2.2.2=true)(hS:aH w ar L L.length)(hD:bi w br S k)(hI:ij w ir ids k)
  (hids:∀i,i<k→ids.getD i 0≠0→aN (atV L L.length (ids.getD i 0)).1 (atV L L.length (ids.getD i 0)).2.1 (atV L L.length (ids.getD i 0)).2.2=true∧jY (vA S i)=true) :
  Calls Tryz.prog 179 #[.slice ar L.length cr,.slice br k dr,.slice ir k er,.agg #[J Z t.1,J Z t.2.1,J Z t.2.2.1,J Z t.2.2.2]] w fun e w'=>e=.returned (.bool (iE L S ids t k))∧Below w.heap.size w w':=by
 have cA:=yz (fun (W:World) (q:Int) hW=>uP L L.length q ar cr W (by omega) hW);have HNO:Hid (∀i,i<k→(decide (ids.getD i 0=0) || dW t (bY L S ids i))=false→iE L S ids t k=false):=yz (fun i hi h=>Bg hi h);have HYE:Hid (jb L S ids t k→iE L S ids t k=true):=yz (fun h=>zx h);have HST:Hid (∀n,jb L S ids t n→(decide (ids.getD n 0=0) || dW t (bY L S ids n))=true→jb L S ids t (n+1)):=yz (fun n h h1=>uh h h1);have H0:Hid (jb L S ids t 0):=yz (fun j hj=>absurd hj (Nat.not_lt_zero _));have HBR:Hid (∀i,dW t (bY L S ids i)=bS (vA S i) (apD t.1 t.2.1 t.2.2.1 t.2.2.2 (atV L L.length (ids.getD i 0)))):=yz (fun i=>rfl);have HDS:=yz hids;have HT:=yz ht;have HS:=yz hS;have HD:=yz hD;clear hS hD hids ht;generalize iE L S ids t k=R at *;generalize jb L S ids t=TT at *;generalize dW t=br' at *;obtain⟨t1,t2,t3,t4⟩:=t;simp only at HT HBR ⊢;generalize L.length=n at *;have V0:=yz (bh w t1 t2 t3 t4 35);have B0:=yz (ak w (.cells #[J Z t1,J Z t2,J Z t3,J Z t4] 35));rcases hI with rfl | ⟨ib,io,rfl,hib,hic⟩
 ·have HY:=yz (yx HYE (yx H0));go_enter Tryz.func179,Tryz.ntmps179;go_wp2_with fail;refine wp_loop_rounds 1 ?_;rw[rounds_succ];go_wp2_with fail;go_ret;exact⟨by rw[yx HY];rfl,yx B0⟩
 have HIC:=yz hic;clear hic;go_enter Tryz.func179,Tryz.ntmps179;go_wp2_with fail;go_loopw [9] (fun kk wr=>∃i:Nat,i≤k∧kk=J Z i∧Hid (TT i)∧Hid (bd wr w.heap.size t1 t2 t3 t4)∧Hid (Below w.heap.size w wr)) (fun kk _=>k-(intOf kk).toNat)
 case atStart=>exact⟨0,by omega,rfl,H0,V0,B0⟩
 case round=>
  clear V0 B0;obtain⟨i,hi,rfl,HF,HV,HB⟩:=hrel;by_cases hik:i<k
  ·have hik2:(i:Int)<(k:Int):=by omega
   have ci:wr.cell? ⟨ib,io+i,none⟩=some (J Z (ids.getD i 0)):=by rw[(yx HB).cell (p:=⟨ib,io+i,none⟩) hib];exact yx HIC i hik
   have HSTi:=yz (yx HST i (yx HF));have HNOi:=yz (yx HNO i hik);have hds:=yx HDS i hik;rw[yx HBR i]at HSTi HNOi;generalize ids.getD i 0=x at *;by_cases hx0:x=0
   ·subst hx0;have HF2:=yz (yx HSTi rfl);have ri:=cell_regrown ci;clear ci;have hnz:((0:Int)==0)=true:=rfl;have hnz2:decide ((0:Int)≠0)=false:=by decide
    go_wp2_with fail;refine bQ ?_;repeat (go_big_quiet_step (fail))
    refine bW fun dq osq=>?_;have hx:=below_regrown wr dq osq;have HB5:=aA HB hx;have HV5:=yz ((yx HV).kept (yx HV).lt hx);generalize grow (redrawn wr dq) osq=W5 at hx HB5 HV5 ⊢;clear hx ri HB HV;go_wp2_with fail;go_roundw
    case rel=>exact⟨i+1,by omega,by go_num,HF2,HV5,HB5⟩
    case measure=>simp[intOf]<;>omega
   have hx0':(x==0)=false:=by simp[hx0]
   have hx1':(x != 0)=true:=by simp[hx0]
   obtain⟨hsm,hwd⟩:=hds hx0;rw[decide_eq_false hx0,Bool.false_or]at HSTi HNOi;have cAx:=yz (fun (W:World) hW=>yx cA W x hW);rcases yx HD with h | ⟨bb,bo,rfl,hbb,hbc⟩
   ·omega
   have hsp:=(hbc i hik).kept hbb (yx HB);clear hbc;generalize vA S i=sv at *;generalize atV L n x=q at *;have cP:=yz (fun W=>lk t1 t2 t3 t4 q W (yx HT) hsm);have cQ:=yz (fun W=>iT (apD t1 t2 t3 t4 q) sv W (qX (yx HT) hsm) (om hwd));clear hds hsm hwd;generalize bS sv (apD t1 t2 t3 t4 q)=sm at *;generalize apD t1 t2 t3 t4 q=r at *;obtain⟨q1,q2,q3⟩:=q;obtain⟨r1,r2,r3⟩:=r;obtain⟨v1,v2,v3⟩:=sv;unfold Bm at cAx;simp only at cAx cP cQ;obtain⟨c0,c1,c2⟩:=hsp;simp only at c0 c1 c2;obtain⟨y0,y1,y2,y3⟩:=yx HV;have ri:=cell_regrown ci;have rc0:=cell_regrown c0;have rc1:=cell_regrown c1;have rc2:=cell_regrown c2;have ry0:=cell_regrown y0;have ry1:=cell_regrown y1;have ry2:=cell_regrown y2;have ry3:=cell_regrown y3;clear ci c0 c1 c2 y0 y1 y2 y3;have HS1:=an HS (yx HB);go_wp2_with fail;refine bQ ?_;repeat (go_big_quiet_step (first | (with_reducible exact Calls.regrown_of (yx cAx _ ((yx HS1).kept (below_regrown _ _ _)))) | (with_reducible exact aC cP) | (with_reducible exact aC cQ)))
   refine bW fun dq osq=>?_;have hx:=below_regrown wr dq osq;have HB5:=aA HB hx;have HV5:=yz ((yx HV).kept (yx HV).lt hx);generalize grow (redrawn wr dq) osq=W5 at hx HB5 HV5 ⊢;clear hx ri rc0 rc1 rc2 ry0 ry1 ry2 ry3 cAx cP cQ HB HV HS1;cases sm
   ·have HN:=yz (yx HNOi rfl);go_wp2_with fail;go_ret;exact⟨by rw[yx HN];rfl,yx HB5⟩
   ·have HF2:=yz (yx HSTi rfl);go_wp2_with fail;go_roundw
    case rel=>exact⟨i+1,by omega,by go_num,HF2,HV5,HB5⟩
    case measure=>simp[intOf]<;>omega
  ·have hik':i=k:=by omega
   subst hik';have HY:=yz (yx HYE (yx HF));go_wp2_with fail;go_ret;exact⟨by rw[yx HY];rfl,yx HB⟩
def vN(ids:List Int):Nat→Nat
 | 0=>0
 | k+1=>vN ids k+if ids.getD k 0≠0 then 1 else 0
theorem BD(L:List St)(S:List D3)(ids:List Int):∀k,vN ids k=(au L S ids k).length
 | 0=>rfl
 | k+1=>by
  have ih:=BD L S ids k;show vN ids k+(if ids.getD k 0≠0 then 1 else 0)=_;rw[wZ,ih]
theorem BE(ids:List Int):∀k,vN ids k≤k
 | 0=>Nat.le_refl _
 | k+1=>by
  have ih:=BE ids k;show vN ids k+(if ids.getD k 0≠0 then 1 else 0)≤k+1;split<;>omega
theorem Ag(L:List St)(S:List D3)(ids:List Int)(ar br ir:Option Addr)(cr dr er:Nat)(w:World)(hN:bN L S ids=true)(hS:aH w ar L L.length)(hD:bi w br S S.length)(hI:ij w ir ids ids.length):
  Calls Tryz.prog 144 #[.slice ar L.length cr,.slice br S.length dr,.slice ir ids.length er] w fun e w'=>e=.returned (outV (if (au L S ids ids.length).length<2 then ((0,0,0,0),10) else fZ (au L S ids ids.length) (az 625)))∧Below w.heap.size w w':=by
 obtain⟨g1,g2,g3,_⟩:=gq hN;have hm6:=(bK g2).1;have hn12:=(eu g1).1
 have cU:Hid (∀(t:T4) (W:World),aE t.1 t.2.1 t.2.2.1 t.2.2.2=true→aH W ar L L.length→bi W br S ids.length→ij W ir ids ids.length→Calls Tryz.prog 179 #[.slice ar L.length cr,.slice br ids.length dr,.slice ir ids.length er,.agg #[J Z t.1,J Z t.2.1,J Z t.2.2.1,J Z t.2.2.2]] W fun e w'=>e=.returned (.bool (dI (au L S ids ids.length) t))∧Below W.heap.size W w'):=yz (fun t W ht h1 h2 h3=>by
  rw[←Ek]
  exact tN L S ids t ids.length ar br ir cr dr er W (by omega) hn12 ht h1 h2 h3 (fun i hi h0=>Ao hN hi h0))
 have HCE:=yz (BD L S ids ids.length)
 have cT:Hid (∀W:World,Calls Tryz.prog 178 #[] W fun e w'=>∃g c,e=.returned (.slice (some ⟨g,0,none⟩) (az 625).length c)∧kW w' g (az 625)∧Below W.heap.size W w'):=yz (fun W=>(tY W).mono fun e w' h=>by
  obtain⟨⟨v,he,ho⟩,hb⟩:=h;obtain⟨g,c,rfl,hg,ht⟩:=vC ho tk
  exact⟨g,c,he,ht,hb⟩)
 have HTR:Hid (∀k,k<(az 625).length→aE (tA (az 625) k).1 (tA (az 625) k).2.1 (tA (az 625) k).2.2.1 (tA (az 625) k).2.2.2=true):=yz (fun k hk=>pX hk);have hTL:=mb 625;have HS:=yz hS;have HD:=yz hD;clear hS hD hN g1 g2;rw[←g3]at HD hm6;rw[←g3];clear g3;generalize au L S ids ids.length=A at *;have HF1:Hid (∀k,k<(az 625).length→(∀j,j<k→dI A (tA (az 625) j)=false)→dI A (tA (az 625) k)=true→fZ A (az 625)=(tA (az 625) k,0)):=yz (fun k hk h h1=>xV hk h h1);have HF2:Hid ((∀j,j<(az 625).length→dI A (tA (az 625) j)=false)→fZ A (az 625)=((0,0,0,0),6)):=yz rp;generalize az 625=T at *;generalize hlt:T.length=tn at *;have HTL:=yz hlt;clear hlt;generalize L.length=n at *;generalize A.length=al at *;obtain⟨RV,hRV⟩:∃r,r=(if al<2 then ((0,0,0,0),10) else fZ A T):=⟨_,rfl⟩
 rw[←hRV];have HRA:Hid (al<2→RV=((0,0,0,0),10)):=yz (fun h=>by rw[hRV,if_pos h]);have HRB:Hid (¬al<2→RV=fZ A T):=yz (fun h=>by rw[hRV,if_neg h]);clear hRV;have HI:=yz hI;clear hI;generalize ids.length=k at *;have R0:=yz (ap w [J Z 0,J Z 0,J Z 0,J Z 0,J Z 0] 156);have B0:=yz (ak w (.cells #[J Z 0,J Z 0,J Z 0,J Z 0,J Z 0] 156));go_enter Tryz.func144,Tryz.ntmps144;go_wp2_with fail;generalize w.alloc (.cells #[J Z 0,J Z 0,J Z 0,J Z 0,J Z 0] 156)=W0 at R0 B0 ⊢;go_loopw [7,8] (fun c kk wr=>∃i:Nat,i≤k∧kk=J Z i∧c=J Z (vN ids i:Int)∧wr=W0) (fun _ kk _=>k-(intOf kk).toNat)
 case atStart=>exact⟨0,by omega,rfl,rfl,rfl⟩
 case round=>
  obtain⟨i,hi,rfl,rfl,rfl⟩:=hrel;by_cases hik:i<k
  ·have hik2:(i:Int)<(k:Int):=by omega
   rcases yx HI with h | ⟨ib,io,rfl,hib,hic⟩
   ·omega
   have ci:wr.cell? ⟨ib,io+i,none⟩=some (J Z (ids.getD i 0)):=by rw[(yx B0).cell (p:=⟨ib,io+i,none⟩) hib];exact hic i hik
   clear hic;have HCN:Hid (vN ids (i+1)=vN ids i+if ids.getD i 0≠0 then 1 else 0):=yz rfl;have hcl:=BE ids i;generalize ids.getD i 0=x at *;generalize hci:vN ids i=ct at *;clear hci;by_cases hx0:x=0
   ·subst hx0;rw[if_neg (by simp)]at HCN;go_wp2_with fail;go_roundw
    case rel=>exact⟨i+1,by omega,by go_num,by rw[yx HCN];rfl,by first | rfl | trivial⟩
    case measure=>simp[intOf]<;>omega
   ·have hx0':(x==0)=false:=by simp[hx0]
    rw[if_pos hx0]at HCN;go_wp2_with fail;go_roundw
    case rel=>exact⟨i+1,by omega,by go_num,by rw[yx HCN];go_num,by first | rfl | trivial⟩
    case measure=>simp[intOf]<;>omega
  ·have hik':i=k:=by omega
   subst hik';rw[yx HCE];clear HCE;by_cases h2:al<2
   ·have h2':(al:Int)<2:=by omega
    have HRV:=yz (yx HRA h2);obtain⟨r0,r1,r2,r3,r4⟩:=gL (yx R0);have f0:=qa (yx R0);go_wp2_with fail;exact bodyPost_ret (v:=.agg #[J Z 0,J Z 0,J Z 0,J Z 0,J Z 10]) (by simp[results,Tryz.results144,go_sem,r0,r1,r2,r3,r4]) rfl ⟨by rw[yx HRV];rfl,ff (yx B0) (Nat.le_refl _) _ _ _ _ _⟩
   have h2':¬(al:Int)<2:=by omega
   have HR:=yz (yx HRB h2);clear HRA HRB h2;go_wp2_with fail;refine(yx cT _).mono ?_;rintro e W3 ⟨g,c3,rfl,ht,hx⟩;have HT3:=yz ht;have HR3:=an R0 hx;have HB3:=aA B0 hx;clear ht hx R0 B0 cT;go_wp2_with fail;go_loopw [10] (fun kk wr=>∃j:Nat,j≤tn∧kk=J Z j∧Hid (∀l,l<j→dI A (tA T l)=false)∧Hid (kW wr g T)∧Hid (Blk wr w.heap.size [J Z 0,J Z 0,J Z 0,J Z 0,J Z 0] 156)∧Hid (Below w.heap.size w wr)) (fun kk _=>tn-(intOf kk).toNat)
   case atStart=>exact⟨0,by omega,rfl,yz (fun j hj=>absurd hj (Nat.not_lt_zero _)),HT3,HR3,HB3⟩
   case round=>
    clear HT3 HR3 HB3;obtain⟨j,hj,rfl,HF,HT,HRB,HB⟩:=hrel;by_cases hjn:j<tn
    ·have hjn2:(j:Int)<(tn:Int):=by omega
     obtain⟨c0,c1,c2',c3'⟩:=(yx HT).2 j (by rw[yx HTL];exact hjn);have htr:=yx HTR j hjn;have HF1j:=yz (yx HF1 j hjn (yx HF));obtain⟨t,ht⟩:∃t,tA T j=t:=⟨_,rfl⟩
     rw[ht]at c0 c1 c2' c3' htr HF1j;have HTE:=yz ht;clear ht;have cEt:=yz (fun W h1 h2 h3=>yx cU t W htr h1 h2 h3);clear htr;have HEX:Hid (dI A (tA T j)=dI A t):=yz (by rw[yx HTE]);generalize dI A t=ev at *;obtain⟨t1,t2,t3,t4⟩:=t;simp only at c0 c1 c2' c3' cEt;go_wp2_with fail;refine(yx cEt _ ((yx HS).kept (yx HB)) ((yx HD).kept (yx HB)) ((yx HI).kept (yx HB))).mono ?_;rintro e W5 ⟨rfl,hx⟩;have HT2:=an HT hx;have HR2:=an HRB hx;have HB2:=aA HB hx;have x0:=fg c0 hx;have x1:=fg c1 hx;have x2:=fg c2' hx;have x3:=fg c3' hx;clear hx HT HRB HB cEt c0 c1 c2' c3';cases ev
     ·clear x0 x1 x2 x3;go_wp2_with fail;go_roundw
      case rel=>exact⟨j+1,by omega,by go_num,yz (fun l hl=>by
       by_cases e:l=j
       ·rw[e];exact yx HEX
       ·exact yx HF l (by omega)),HT2,HR2,HB2⟩
      case measure=>simp[intOf];omega
     ·have HRV:Hid (RV=((t1,t2,t3,t4),0)):=yz (by rw[yx HR];exact yx HF1j rfl);obtain⟨r0,r1,r2,r3,r4⟩:=gL (yx HR2);have f0:=qa (yx HR2);go_wp2_with fail;exact bodyPost_ret (v:=.agg #[J Z t1,J Z t2,J Z t3,J Z t4,J Z 0]) (by simp[results,Tryz.results144,go_sem,r0,r1,r2,r3,r4]) rfl ⟨by rw[yx HRV];rfl,ff (yx HB2) (Nat.le_refl _) _ _ _ _ _⟩
    ·have hjn':j=tn:=by omega
     subst hjn';have HRV:Hid (RV=((0,0,0,0),6)):=yz (by rw[yx HR];exact yx HF2 (yx HF));obtain⟨r0,r1,r2,r3,r4⟩:=gL (yx HRB);have f0:=qa (yx HRB);go_wp2_with fail;exact bodyPost_ret (v:=.agg #[J Z 0,J Z 0,J Z 0,J Z 0,J Z 6]) (by simp[results,Tryz.results144,go_sem,r0,r1,r2,r3,r4]) rfl ⟨by rw[yx HRV];rfl,ff (yx HB) (Nat.le_refl _) _ _ _ _ _⟩
end
section
open Go.RowKit Go.Sort
end
section
open Go.Value renaming int → J
open Go.IntKind renaming i64 → Y
open Go.RowKit Go.Sort
def bH(L:List St)(S:List D3):T4×Int:=if eX L S=0 then kl L S (dw L S) else ((0,0,0,0),eX L S)
def eG(t:Tk)(S:List D3):Tk:=
 if t.mode≠0∧2≤aQ (bV t.L t.A t.B t.C t.D S) then GD { t with fr:=t.fr+1 } t.A t.B t.C t.D
 else if (bH t.L S).2=0 then GD { t with fr:=t.fr+1 } (bH t.L S).1.1 (bH t.L S).1.2.1 (bH t.L S).1.2.2.1 (bH t.L S).1.2.2.2
 else bz { t with fr:=t.fr+1 }
variable {e:Ending} {code:Int} {ids:List Int} {w':World}
theorem vh{w:World}{lo hi n:Nat}{v:Value}(hl:ids.length=n)(h:eJ w 2 1 lo hi n v (fun j=>J Y (ids.getD j 0))):∃a k,v=.slice a n k∧ij w a ids n:=by
 rcases h with ⟨rfl,a,k,rfl⟩ | ⟨g,k,rfl,_,_,hr⟩
 ·exact⟨a,k,rfl,.inl rfl⟩
 ·exact⟨_,k,rfl,nN hr⟩
theorem xJ(L:List St)(S:List D3)(ar br:Option Addr)(cr dr:Nat)(a b c d:Int)(p:Addr)(w:World)(hn:L.length≤1048576)(hcap:L.length≤cr)(hc9:cr≤9223372036854775807)(hn2:S.length≤1048576)(hcap2:S.length≤dr)(hd9:dr≤9223372036854775807)(hS:aH w ar L L.length)(hD:bi w br S S.length)(hE:bm p w):
  Calls Tryz.prog 149 #[.agg #[.slice ar L.length cr],.agg #[J Y a,J Y b,J Y c,J Y d],.slice br S.length dr] w fun e w'=>e=.returned (J Y (aQ (bV L a b c d S):Int))∧Below w.heap.size w w':=by
 have B0:=yz (aF w (.cells #[.slice ar L.length cr] 90) (.cells #[J Y a,J Y b,J Y c,J Y d] 35));have cM:=yz (qj L S ar br cr dr a b c d p _ hn hcap hc9 hn2 hcap2 hd9 (hS.kept (yx B0)) (hD.kept (yx B0)) (hE.kept (yx B0)));have hl:=Dt L a b c d S;have HN:=yz (fun (W:World) (x:Option Addr) (k:Nat) h=>gz (bV L a b c d S) x k W (by omega) h);clear hS hD hE;go_enter Tryz.func149,Tryz.ntmps149;go_wp2_with fail;refine(yx cM).mono ?_;rintro e w1 ⟨⟨v,rfl,hp⟩,hx⟩;obtain⟨x,k,rfl,hv⟩:=vh rfl hp;have B1:=aA B0 hx;have cN:=yz (yx HN w1 x k hv);generalize (bV L a b c d S).length=m at *;clear hx hp hv B0 cM HN;go_wp2_with fail;refine(yx cN).mono ?_;rintro e w2 ⟨rfl,hw⟩;rw[hw];clear hw w2;go_wp2_with fail;go_ret;exact⟨rfl,yx B1⟩
theorem DF{B:Nat}{cnt:Int}(h:IY w' B ids cnt code e):∃a k,e=.returned (.agg #[.slice a ids.length k,J Y cnt,J Y code])∧ij w' a ids ids.length:=by
 obtain⟨v,he,h⟩:=h;rcases h with ⟨h0,rfl⟩ | ⟨g,rfl,_,hr⟩
 ·exact⟨none,0,by rw[he,h0];rfl,.inl (by rw[h0];rfl)⟩
 ·exact⟨_,_,he,nN hr⟩
theorem uY{B:Nat}{cnt:Int}(h:IX w' B ids cnt code e):∃a k,e=.returned (.agg #[.slice a ids.length k,J Y cnt,J Y code])∧ij w' a ids ids.length:=by
 obtain⟨a,k,he,hp⟩:=DM h;obtain⟨x,y,hv,hN⟩:=vh (ids:=ids) rfl (show eJ w' 2 1 B w'.heap.size ids.length (.slice a ids.length k) (fun j=>J Y (ids.getD j 0)) from hp);rw[hv]at he;exact⟨x,y,he,hN⟩
theorem sF(T:Array Value)(X:World)(b:Nat)(p q r s k:Int)(hT:T.getD 4 undef=.pointer (some ⟨b,0,none⟩))(h:Blk X b [J Y p,J Y q,J Y r,J Y s,J Y k] 156):(results Tryz.f151 T).run Tryz.prog X=.ok (.agg #[J Y p,J Y q,J Y r,J Y s,J Y k]) X:=by
 obtain⟨h0,h1,h2,h3,h4⟩:=gL (h);simp only[Array.getD_eq_getD_getElem?]at hT;simp[results,Tryz.results151,go_sem,hT,h0,h1,h2,h3,h4]
theorem zw(L:List St)(S:List D3)(ar br:Option Addr)(cr dr:Nat)(p:Addr)(w:World)(hn:L.length≤1048576)(hcap:L.length≤cr)(hc9:cr≤9223372036854775807)(hn2:S.length≤1048576)(hcap2:S.length≤dr)(hd9:dr≤9223372036854775807)(hS:aH w ar L L.length)(hD:bi w br S S.length)(hA:∀y,ar=some y→y.block<w.heap.size)(hB:∀y,br=some y→y.block<w.heap.size)(hE:bm p w):
  Calls Tryz.prog 151 #[.agg #[.slice ar L.length cr],.slice br S.length dr] w fun e w'=>e=.returned (.agg #[J Y (bH L S).1.1,J Y (bH L S).1.2.1,J Y (bH L S).1.2.2.1,J Y (bH L S).1.2.2.2,J Y (bH L S).2])∧Below w.heap.size w w':=by
 have B0:=yz (aF w (.cells #[.slice ar L.length cr] 90) (.cells #[J Y 0,J Y 0,J Y 0,J Y 0,J Y 0] 156));have A0:=yz ((ap w [.slice ar L.length cr] 90).alloc (.cells #[J Y 0,J Y 0,J Y 0,J Y 0,J Y 0] 156));have R0:=yz (by simpa using ap (w.alloc (.cells #[.slice ar L.length cr] 90)) [J Y 0,J Y 0,J Y 0,J Y 0,J Y 0] 156:Blk ((w.alloc (.cells #[.slice ar L.length cr] 90)).alloc (.cells #[J Y 0,J Y 0,J Y 0,J Y 0,J Y 0] 156)) (w.heap.size+1) [J Y 0,J Y 0,J Y 0,J Y 0,J Y 0] 156);have hl0:=(yx B0).size;have cI:=yz (vY L S ar br cr dr p _ hn hn2 hcap hc9 hcap2 hd9 (hS.kept (yx B0)) (hD.kept (yx B0)) (fun y e=>Nat.lt_of_lt_of_le (hA y e) hl0) (fun y e=>Nat.lt_of_lt_of_le (hB y e) hl0) (hE.kept (yx B0)));have hid:=rL L S;have cF:=yz (fun (W:World) (x:Option Addr) (k:Nat) (h:Below w.heap.size w W) hN=>ql L S (dw L S) ar br x cr dr k p W hn hcap hc9 hn2 hcap2 hd9 (by omega) (hS.kept h) (hD.kept h) hN (hE.kept h));have hY:eX L S=0→Hid (bH L S=kl L S (dw L S)):=fun h=>yz (by unfold bH;rw[if_pos h]);have hN:eX L S≠0→Hid (bH L S=((0,0,0,0),eX L S)):=fun h=>yz (by unfold bH;rw[if_neg h]);clear hS hD hE hl0 hA hB;go_enter Tryz.func151,Tryz.ntmps151;go_wp2_with fail;refine(yx cI).mono ?_;rintro e w1 ⟨hO,hx⟩;obtain⟨x,k,rfl,hv⟩:=DF hO;generalize eX L S=kd at *;generalize gQ L S=ct at *;have Z:=ak w1 (.cells #[.slice x (dw L S).length k,J Y ct,J Y kd] 196);have B1:=aA (aA B0 hx) Z;have A1:=aI A0 hx Z;have R1:=aI R0 hx Z;have I1:=yz (ap w1 [.slice x (dw L S).length k,J Y ct,J Y kd] 196);have N1:=yz (hv.kept Z);clear hx hO hv Z B0 A0 R0 cI;by_cases h0:kd=0
 ·have HO:=hY h0;clear hY hN;have cF2:=yz (yx cF _ x k (yx B1) (yx N1));rw[←yx HO]at cF2;clear cF N1 HO;obtain⟨⟨⟨t1,t2,t3,t4⟩,tc⟩,htv⟩:∃z,bH L S=z:=⟨_,rfl⟩
  rw[htv]at cF2;have HTV:=yz htv;clear htv;have cF3:Hid (Calls Tryz.prog 185 #[.slice ar L.length cr,.slice br S.length dr,.slice x (dw L S).length k] (w1.alloc (.cells #[.slice x (dw L S).length k,J Y ct,J Y kd] 196)) fun e w'=>e=.returned (.agg #[J Y t1,J Y t2,J Y t3,J Y t4,J Y tc])∧Below (w1.alloc (.cells #[.slice x (dw L S).length k,J Y ct,J Y kd] 196)).heap.size (w1.alloc (.cells #[.slice x (dw L S).length k,J Y ct,J Y kd] 196)) w'):=cF2;clear cF2;generalize (dw L S).length=nI at *;have a0:=(yx A1).cell 0 _ rfl;have i0:=eP (yx I1);subst h0;go_wp2_with fail;clear a0 i0;refine(yx cF3).mono ?_;rintro e w2 ⟨rfl,hx⟩;have B2:=aA B1 hx;have R2:=an R1 hx;clear hx;have r0:=gL (yx R2);have g0:=qa (yx R2);go_wp2_with fail;clear r0 g0;rw[yx HTV];refine bodyPost_ret (v:=.agg #[J Y t1,J Y t2,J Y t3,J Y t4,J Y tc]) ?_ rfl ⟨rfl,?_⟩
  ·exact sF _ _ (w.heap.size+1) _ _ _ _ _ rfl ((((((yx R2).set 0 _).set 1 _).set 2 _).set 3 _).set 4 _)
  ·iterate 5 (refine aB ?_ (show w.heap.size≤w.heap.size+1 by omega) _ _)
   exact yx B2
 ·have HO:=hN h0;clear hY hN cF;generalize (dw L S).length=nI at *;have i0:=eP (yx I1);have r0:=gL (yx R1);have g0:=qa (yx R1);go_wp2_with fail;clear r0 g0 i0;rw[yx HO];refine bodyPost_ret (v:=.agg #[J Y 0,J Y 0,J Y 0,J Y 0,J Y kd]) ?_ rfl ⟨rfl,?_⟩
  ·exact sF _ _ (w.heap.size+1) _ _ _ _ _ rfl ((((((yx R1).set 0 _).set 1 _).set 2 _).set 3 _).set 4 _)
  ·iterate 5 (refine aB ?_ (show w.heap.size≤w.heap.size+1 by omega) _ _)
   exact yx B1
theorem gC(T:Array Value)(X:World)(b:Nat)(v:Value)(lim mode A B C D coast fr:Int)(hT:T.getD 4 undef=.pointer (some ⟨b,0,none⟩))(h:dk X b v lim mode A B C D coast fr):(results Tryz.f114 T).run Tryz.prog X=.ok (.agg #[v,J Y lim,J Y mode,J Y A,J Y B,J Y C,J Y D,J Y coast,J Y fr]) X:=by
 obtain⟨h0,h1,h2,h3,h4,h5,h6,h7,h8⟩:=h;simp only[Array.getD_eq_getD_getElem?]at hT;simp[results,Tryz.results114,go_sem,hT,h0,h1,h2,h3,h4,h5,h6,h7,h8]
theorem lU(T:Array Value)(X:World)(b:Nat)(v:Value)(lim mode A B C D coast fr code:Int)(hT:T.getD 4 undef=.pointer (some ⟨b,0,none⟩))(h:TkO X b v lim mode A B C D coast fr code):(results Tryz.f71 T).run Tryz.prog X=.ok (.agg #[v,J Y lim,J Y mode,J Y A,J Y B,J Y C,J Y D,J Y coast,J Y fr,J Y code]) X:=by
 obtain⟨⟨h0,h1,h2,h3,h4,h5,h6,h7,h8⟩,h9⟩:=h;simp only[Array.getD_eq_getD_getElem?]at hT;simp[results,Tryz.results71,go_sem,hT,h0,h1,h2,h3,h4,h5,h6,h7,h8,h9]
end
end Go.Proofs.YteoonaanoenjiaaGreatDoor
