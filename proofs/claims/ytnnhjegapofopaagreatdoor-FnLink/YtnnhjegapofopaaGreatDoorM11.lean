import Derived.Test.YtnnhjegapofopaaGreatDoorM10
namespace Go.Proofs.YtnnhjegapofopaaGreatDoor
set_option linter.all false
set_option maxRecDepth 100000
set_option maxHeartbeats 8000000
open Go.RowKit Go.Sort Go.Proofs.Tryz
open Go.Value renaming int -> J,slice -> σ
open Go.Obj renaming cells -> ξ
open Nat renaming le_trans -> ϊ
open Go.IntKind renaming i64 -> Z
section
open Go.RowKit Go.Sort Go.Shelf
attribute [local go_sem] Oper.semAt_some
theorem uC.keptM{b p q:Nat}{w k:World}{c:Nat}{g i j:Value}(h:uC w c g i j)(a:KpM b p q w k)(d:c≠b)(e:c≠p)(f:c≠q):uC k c g i j:=⟨a.cell h.1 d e f,a.cell h.2.1 d e f,a.cell h.2.2 d e f⟩
theorem GU(L:List St)(S:List D3)(Y br:Option Addr)(cr dr b l p q r:Nat)(J:List (List Int)->World->Prop)(hk:bE L=true)(hm:S.length<=6)(hJ:JAb b J)(ba:b≠p)(bb:b≠q)(hA:mY Y b p q)(hB:mY br b p q)(ih:Lj L S Y br cr dr b l p q J r):Lj L S Y br cr dr b l p q J (r+1):=fun d V N n w hl K hN hS hD hp hq hj=>by
 have ad:L.length<=12:=(ff hk).1;have B0:=an w (ξ #[σ Y L.length cr,σ br S.length dr,.map (some b)] 278);have C0:uC (w.alloc (ξ #[σ Y L.length cr,σ br S.length dr,.map (some b)] 278)) w.1.size (σ Y L.length cr) (σ br S.length dr) (.map (some b)):=by refine⟨?_,?_,?_⟩<;>simp
 have a9:b<w.1.size:=by obtain⟨D,hD,_⟩:=hN;exact hD.lt
 have cA:=yz (fun (k:Nat)=>(callsIn_wide (n:=k)).2 (Gw L S d d.length Y br L.length cr dr b N _ hm (by omega) (hD.kept B0) (hN.below B0)));have HN:=yz (hN.below B0);have HS:=yz (hS.kept B0);have HD:=yz (hD.kept B0);have ao:=yz (hJ _ _ _ hj hN.isMap (dX B0));have HC:=yz C0;have aj:=yz B0;have am:=yz ih;have H:=yz hJ;have aS:¬(d.length:Int)=(S.length:Int):=by omega
 have a7:((d.length:Int)==(S.length:Int))=false:=by rw[beq_eq_false_iff_ne];exact aS
 have aU:(w.alloc (ξ #[σ Y L.length cr,σ br S.length dr,.map (some b)] 278)).1.size=w.1.size+1:=by simp
 clear B0 C0 hN hS hD hj ih hJ;refine callsIn_of_wp func214 rfl trivial ?_ rfl;simp only[ntmps214,List.size_toArray,List.length_cons,List.length_nil,Nat.reduceAdd,Nat.reduceSub,Array.replicate_succ,Array.replicate_zero,List.push_toArray,List.append_toArray,List.nil_append,List.cons_append];gi_wp2
 refine⟨trivial,fun h=>(by cases h),?_⟩;generalize hW:w.alloc (ξ #[σ Y L.length cr,σ br S.length dr,.map (some b)] 278)=W at *;clear hW;refine(yx cA _).mono ?_;rintro e w1 ⟨⟨v,rfl,ho⟩,t⟩;obtain⟨av,cv,rfl⟩:=ju ho;have aJ:=yz (pH ho);have aR:=FO ho (by decide);have bc:=we ho;have bf:maxLen<=9223372036854775807:=by decide +kernel
 have bg:=kz L S d d.length
 have aE:Hid (mY av b p q):=yz (fun y e=>by
  rcases ho.2 with ⟨x,_⟩ | ⟨g,c',a5,e',a8,_⟩
  ·injection x with x;rw[x]at e;cases e
  ·injection e' with e1;rw[e1]at e;cases e;exact⟨by show g≠b;omega,by show g≠p;omega,by show g≠q;omega⟩)
 have N1:=yz ((yx HN).below t);have S1:=ap HS t;have D1:=ap HD t;have J1:=yz (yx H _ _ _ (yx ao) (yx HN).isMap (dX t));have C1:=ap HC t;have aH:=yz (KpM.of_below (b:=b) (p:=p) (q:=q) (ak (yx aj) t));have aV:w.1.size+1<=w1.1.size:=by have:=t.size;omega
 have aF:=yz (IZ L S d);generalize aT:ay L S d d.length=SA at *;clear ho t HN HS HD ao HC aj cA aU aT;obtain⟨c0,c1,c2⟩:=yx C1;gi_wp2
 clear c0 c1 c2;gi_loopw [27] (fun i wr=>∃k:Nat,k<=L.length/\i=.int .i64 k/\Hid (J (V ++ kx (ey L S) (L.map (·.1)) r d k) wr)/\Hid (dh wr b (N+k*13 ^ r) L d)/\Hid (KpM b p q w1 wr)) (fun i _=>L.length-(intOf i).toNat)
 case atStart=>exact⟨0,Nat.zero_le _,rfl,yz (by rw[EE,List.append_nil];exact yx J1),yz (by rw[Nat.zero_mul];exact yx N1),yz ⟨Nat.le_refl _,rfl,rfl,rfl,fun _ _ h _ _ _ _=>h⟩⟩
 case round=>
  clear J1 N1;obtain⟨k,be,rfl,af,X,s⟩:=hrel;have Sr:=yz (KK (yx S1) (yx s) hA);have Dr:=yz (Mp (yx D1) (yx s) hB);have Cr:=yz ((yx C1).keptM (yx s) (by omega) (by omega) (by omega));have Ar:=yz (LT (yx aJ) (yx s) (yx aE));have aZ:w.1.size+1<=wr.1.size:=ϊ aV (yx s).size;obtain⟨c0,c1,c2⟩:=yx Cr;by_cases B:k<L.length
  ·obtain⟨⟨f,C,E,F⟩,aa⟩:∃z,stA L k=z:=⟨_,rfl⟩
   have T:=wQ hk B;have ah:=DM hk B;have aq:Hid ((L.map (·.1)).getD k 0=f):=yz (by rw[JD B,aa]);rw[aa]at T ah;have ai:=yz ah;have aI:=yz T.2;have a4:(k:Int)<(L.length:Int):=by omega
   rcases yx Sr with h0 | ⟨sb,so,rfl,bi,aA⟩
   ·omega
   have U:=aA k B;rw[aa]at U;obtain⟨d0,d1,d2,d3⟩:=U;clear T ah aa aA;rcases yx Dr with h0 | ⟨db,a6,rfl,bd,az⟩
   ·omega
   obtain⟨⟨v1,v2,v3⟩,hv⟩:∃z,vA S d.length=z:=⟨_,rfl⟩
   have ab:=az d.length (by omega);rw[hv]at ab;have HV:=yz hv;obtain⟨g0,g1,g2⟩:=ab;dsimp only at d0 d1 d2 d3 g0 g1 g2;clear az hv;have bh:(d.length:Int)<(S.length:Int):=by omega
   have Z2:=an wr (ξ #[.int .i64 f,.int .i64 C,.int .i64 E,.int .i64 F] 130);have E2:=yz (ji wr (f,C,E,F) 130);have al:=yz Z2;have y1:=bY c1 Z2;have y2:=bY c2 Z2;have z0:=bY g0 Z2;have z1:=bY g1 Z2;have z2:=bY g2 Z2;clear Z2;gi_wp2
   clear c0 c1 c2 d0 d1 d2 d3 g0 g1 g2;generalize aP:wr.alloc (ξ #[.int .i64 f,.int .i64 C,.int .i64 E,.int .i64 F] 130)=m at *;clear aP;obtain⟨e0,e1,e2,e3⟩:=yx E2;simp only[Nat.zero_add]at e0 e1 e2 e3;have a0:=fun o=>bY y1 (an m o);have a1:=fun o=>bY z0 (an m o);have a2:=fun o=>bY z1 (an m o);have a3:=fun o=>bY z2 (an m o);have aK:=fun o=>bY e0 (an m o);have aL:=fun o=>bY e1 (an m o);have aM:=fun o=>bY e2 (an m o);have aN:=fun o=>bY e3 (an m o);gi_region
   have Z3:=(an m (ξ #[.int .i64 v1,.int .i64 v2,.int .i64 v3,.int .i64 f,.int .i64 C,.int .i64 E,.int .i64 F] 281))
   have Y3:Below m.1.size m (m.alloc (ξ #[.int .i64 v1,.int .i64 v2,.int .i64 v3,.int .i64 f,.int .i64 C,.int .i64 E,.int .i64 F] 281)).drew:=Z3.drew;have P3:Hid (uB (m.alloc (ξ #[.int .i64 v1,.int .i64 v2,.int .i64 v3,.int .i64 f,.int .i64 C,.int .i64 E,.int .i64 F] 281)).drew m.1.size 0 ((v1,v2,v3),(f,C,E,F))):=yz (iS m ((v1,v2,v3),(f,C,E,F)) 281);have E3:=yz ((yx E2).kept (World.block_lt_of_cell? m _ e0) Y3);have u:=aB al Y3;generalize aQ:(m.alloc (ξ #[.int .i64 v1,.int .i64 v2,.int .i64 v3,.int .i64 f,.int .i64 C,.int .i64 E,.int .i64 F] 281)).drew=W3 at *;clear aQ Z3 Y3 y1 y2 z0 z1 z2 e0 e1 e2 e3 a0 a1 a2 a3 aK aL aM aN E2 al;have J3:=yz (yx H _ _ _ (yx af) (yx X).isMap (dX (yx u)));have N3:=yz ((yx X).below (yx u));have K3:=yz ((yx s).trans (KpM.of_below (b:=b) (p:=p) (q:=q) (yx u)));have A3:=ap Ar (yx u);have C3:=ap Cr (yx u);have aW:w.1.size+1<=W3.1.size:=ϊ aZ (yx u).size;generalize m.1.size=nb at *;obtain⟨n0,n1,n2,n3,n4,n5,n6⟩:=yx P3;simp only[Nat.zero_add]at n0 n1 n2 n3 n4 n5 n6;have cF:=yz (fun (j:Nat)=>(callsIn_wide (n:=j)).2 (nu SA SA.length ((v1,v2,v3),(f,C,E,F)) av cv W3 (by omega) aR (by omega) (yx A3)));have aG:Hid (fL SA ((v1,v2,v3),(f,C,E,F)) SA.length=ey L S d f):=yz (by rw[yx aF f,yx HV,yx ai]);rw[yx aG]at cF;unfold sgV at cF;dsimp only at cF;gi_wp2
   refine⟨trivial,fun h=>(by cases h),?_⟩;refine(yx cF _).mono ?_;rintro e W4 ⟨rfl,t⟩;have J4:=yz (yx H _ _ _ (yx J3) (yx N3).isMap (dX t));have N4:=yz ((yx N3).below t);have K4:=yz ((yx K3).trans (KpM.of_below (b:=b) (p:=p) (q:=q) t));have C4:=ap C3 t;have E4:=yz ((yx E3).kept (World.block_lt_of_cell? W3 _ (yx E3).1) t);have aX:w.1.size+1<=W4.1.size:=ϊ aW t.size;clear t n0 n1 n2 n3 n4 n5 n6 J3 N3 K3 C3 E3 A3 cF P3 af X s Cr Ar Sr Dr u;cases ac:ey L S d f
   ·have HR:Hid (kx (ey L S) (L.map (·.1)) r d (k+1)=kx (ey L S) (L.map (·.1)) r d k):=yz (by rw[wh _ _ _ _ (by rw[List.length_map];exact B),yx aq,ac];simp);have J5:Hid (J (V ++ kx (ey L S) (L.map (·.1)) r d (k+1)) W4):=yz (by rw[yx HR];exact yx J4);have N5:Hid (dh W4 b (N+(k+1)*13 ^ r) L d):=yz (by obtain⟨D,x,h2⟩:=yx N4;exact⟨D,x.mono (Nat.add_le_add_left (Nat.mul_le_mul_right _ (Nat.le_succ k)) _),h2⟩);gi_wp2
    go_roundw
    case rel=>first | exact⟨k+1,by omega,by go_num,J5,N5,K4⟩ | trace_state
    case measure=>simp[intOf];omega
   ·have HR:Hid (kx (ey L S) (L.map (·.1)) r d (k+1)=kx (ey L S) (L.map (·.1)) r d k ++ gJ (ey L S) (L.map (·.1)) r (d ++ [f])):=yz (by rw[wh _ _ _ _ (by rw[List.length_map];exact B),yx aq,ac];rfl);obtain⟨c0,c1,c2⟩:=yx C4;obtain⟨e0,e1,e2,e3⟩:=yx E4;simp only[Nat.zero_add]at e0 e1 e2 e3;obtain⟨D,O,hM⟩:=yx N4
    have aO:N+k*13 ^ r<maxLen:=by
     have x:k*13 ^ r<=12*13 ^ r:=Nat.mul_le_mul_right _ (by omega);have h2:100000000<=maxLen:=by decide +kernel
     rw[Nat.pow_succ]at K;have h3:0<13 ^ r:=Nat.pow_pos (by decide);generalize 13 ^ r=c at *;generalize k*c=kc at *;omega
    gi_wp2_with (gi_at_mapUpdate;refine wpListIn_mapUpdate_own _ rfl _ _ _ 276 rfl 3 130 (Maps.int_keyed underlying3) underlying276 wO b (N+k*13 ^ r) D rfl O aO _ _ (.int .i64 (d.length:Int)) rfl rfl (LD d.length (by omega)) (th (f,C,E,F)) [] (wP (f,C,E,F)) ?_;intro W5 P aC;have au:=yz P;have G:=yz aC;clear P aC;have C5:=yz ((yx C4).keptM (KpM.of_grown (b:=b) (p:=p) (q:=q) (yx G)) (by omega) (by omega) (by omega));obtain⟨x0,x1,x2⟩:=yx C5)
    have J5:=yz (yx H _ _ _ (yx J4) (yx N4).isMap (yx G));have K5:=yz ((yx K4).trans (KpM.of_grown (b:=b) (p:=p) (q:=q) (yx G)))
    have N5:Hid (dh W5 b (N+k*13 ^ r+1) L (d ++ [f])):=yz ⟨_,yx au,by
     have x:=hM.put (a:=f) O.isMap (yx aI);rw[yx ai]at x
     exact x⟩
    have S5:=yz (KK (yx S1) (yx K5) hA);have D5:=yz (Mp (yx D1) (yx K5) hB);have aY:w.1.size+1<=W5.1.size:=ϊ aX (yx G).size;have ag:Hid (((d ++ [f]).length:Int)=(d.length:Int)+1):=yz (by simp)
    have cI:=yz (fun (j:Nat)=>yx am (d ++ [f]) (V ++ kx (ey L S) (L.map (·.1)) r d k) (N+k*13 ^ r+1) j W5 (by rw[List.length_append,List.length_singleton];omega) (by
     have x:k*13 ^ r<=11*13 ^ r:=Nat.mul_le_mul_right _ (by omega);rw[Nat.pow_succ]at K;have h3:0<13 ^ r:=Nat.pow_pos (by decide);generalize 13 ^ r=c at *;generalize k*c=kc at *
     omega) (yx N5) (yx S5) (yx D5) (by omega) (by omega) (yx J5))
    rw[yx ag]at cI;clear c0 c1 c2 e0 e1 e2 e3 J4 N4 K4 C4 E4 au O hM G J5 N5 S5 D5;refine⟨trivial,fun h=>(by cases h),?_⟩;refine(yx cI _).mono ?_;rintro e W6 ⟨rfl,I,M,A⟩;have J6:=yz I;have K6:=yz ((yx K5).trans A);have C6:=yz ((yx C5).keptM A (by omega) (by omega) (by omega));have N6:=yz M;have bj:w.1.size+1<=W6.1.size:=ϊ aY A.size;clear x0 x1 x2 I M A K5 C5 cI;obtain⟨x0,x1,x2⟩:=yx C6;obtain⟨D6,Q,ax⟩:=yx N6;gi_wp2_with (gi_at_delete;refine wpListIn_delete_own _ rfl _ _ 276 3 rfl 130 (Maps.int_keyed underlying3) underlying276 wO b _ D6 rfl Q _ (.int .i64 (d.length:Int)) rfl (LD d.length (by omega)) ?_;intro W7 R aD;have aw:=yz R;have ae:=yz aD.grown;clear R aD)
    have J7:Hid (J (V ++ kx (ey L S) (L.map (·.1)) r d (k+1)) W7):=yz (by rw[yx HR,<-List.append_assoc];exact yx H _ _ _ (yx J6) (yx N6).isMap (yx ae));have K7:=yz ((yx K6).trans (KpM.of_grown (b:=b) (p:=p) (q:=q) (yx ae)))
    have N7:Hid (dh W7 b (N+(k+1)*13 ^ r) L d):=yz ⟨_,(yx aw).mono (by
     have h3:0<13 ^ r:=Nat.pow_pos (by decide);rw[Nat.succ_mul];generalize 13 ^ r=c at *;generalize k*c=kc at *
     omega),ax.del⟩
    clear x0 x1 x2 J6 K6 C6 N6 Q ax aw ae;gi_wp2
    go_roundw
    case rel=>first | exact⟨k+1,by omega,by go_num,J7,N7,K7⟩ | exact⟨k+1,by omega,by go_num,J7,N7⟩ | trace_state
    case measure=>simp[intOf];omega
  ·obtain rfl:k=L.length:=by omega
   have ag:Hid (((d ++ [(0:Int)]).length:Int)=(d.length:Int)+1):=yz (by simp);have N5:Hid (dh wr b (N+L.length*13 ^ r) L (d ++ [0])):=yz (by obtain⟨D,x,h2⟩:=yx X;exact⟨D,x,h2.snoc0⟩)
   have cI:=yz (fun (j:Nat)=>yx am (d ++ [0]) (V ++ kx (ey L S) (L.map (·.1)) r d L.length) (N+L.length*13 ^ r) j wr (by rw[List.length_append,List.length_singleton];omega) (by
    have x:L.length*13 ^ r<=12*13 ^ r:=Nat.mul_le_mul_right _ ad;rw[Nat.pow_succ]at K;generalize 13 ^ r=c at *;generalize L.length*c=kc at *
    omega) (yx N5) (yx Sr) (yx Dr) (by omega) (by omega) (yx af))
   rw[yx ag]at cI;gi_wp2
   refine⟨trivial,fun h=>(by cases h),?_⟩;refine(yx cI _).mono ?_;rintro e W6 ⟨rfl,I,M,A⟩;have J6:=yz I;have N6:=yz M;have K6:=yz (((yx aH).trans (yx s)).trans A);clear I M A cI N5 c0 c1 c2;gi_wp2
   go_ret;refine⟨rfl,?_,?_,yx K6⟩
   ·rw[Gx,<-List.append_assoc,List.length_map];exact yx J6
   ·obtain⟨D,x,h2⟩:=yx N6;refine⟨D,x.mono ?_,fun i hi=>?_⟩
    ·have h3:L.length*13 ^ r<=12*13 ^ r:=Nat.mul_le_mul_right _ ad;have h4:0<13 ^ r:=Nat.pow_pos (by decide);rw[Nat.pow_succ];generalize 13 ^ r=c at *;generalize L.length*c=kc at *;omega
    ·have h5:=h2 i hi;unfold fV at h5 ⊢;rw[vp]at h5;exact h5
theorem BR(L:List St)(S:List D3)(d e:Option Addr)(f g b l p q:Nat)(J:List (List Int)->World->Prop)(n:bE L=true)(i:S.length<=6)(h:JAb b J)(m:tR l p q J)(a:b≠p)(c:b≠q)(j:mY d b p q)(k:mY e b p q):∀r,Lj L S d e f g b l p q J r
 | 0=>GV L S d e f g b l p q J i h m a c
 | r+1=>GU L S d e f g b l p q r J n i h a c j k (BR L S d e f g b l p q J n i h m a c j k r)
end
end Go.Proofs.YtnnhjegapofopaaGreatDoor
