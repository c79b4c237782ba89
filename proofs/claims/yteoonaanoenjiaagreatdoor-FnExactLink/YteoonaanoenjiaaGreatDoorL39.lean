/- Several texts in one: BlI, LkM, TurnE, TurnG, ModA, ModC, ModB. -/
import Derived.Test.YteoonaanoenjiaaGreatDoorL38
import Derived.Test.YteoonaanoenjiaaGreatDoorL33
namespace Go.Proofs.YteoonaanoenjiaaGreatDoor
set_option linter.unusedVariables false
set_option linter.unusedSimpArgs false
set_option maxRecDepth 100000
set_option maxHeartbeats 8000000
section
open Go.Value renaming int → J
open Go.IntKind renaming i64 → Z
open Go.RowKit Go.Sort
theorem yj(lv:Int)(w:World):Calls Tryz.prog 77 #[J Z lv] w fun e w'=>e=.returned (.bool (rV lv))∧Below w.heap.size w w':=by
 by_cases k1:0≤lv
 ·by_cases k2:lv≤255
  ·have HV:Hid (rV lv=true):=yz (by unfold rV;simp[k1,k2]);go_enter Tryz.func77,Tryz.ntmps77;go_wp2_with fail;go_ret;exact⟨by rw[yx HV];simp[go_sem,k1,k2],Below.refl _ _⟩
  ·have HV:Hid (rV lv=false):=yz (by unfold rV;simp[k1,k2]);go_enter Tryz.func77,Tryz.ntmps77;go_wp2_with fail;go_ret;exact⟨by rw[yx HV];simp[go_sem,k1,k2],Below.refl _ _⟩
 ·have HV:Hid (rV lv=false):=yz (by unfold rV;simp[k1]);go_enter Tryz.func77,Tryz.ntmps77;go_wp2_with fail;go_ret;exact⟨by rw[yx HV];simp[go_sem,k1],Below.refl _ _⟩
theorem AF(f:Fr)(k n:Nat)(h:k≤n)(h8:8<(aP f k).2.length):8<(aP f n).2.length:=by
 have:=vk f k (n-k);rw[show k+(n-k)=n by omega]at this;omega
theorem qg(wd ht:Int)(s:ByteArray)(lv:Int)(w:World)(hs:s.size≤maxLen):
  Calls Tryz.prog 153 #[.agg #[J Z wd,J Z ht,.string s],J Z lv] w fun e w'=>(∃v,e=.returned (.agg #[v,J Z (mw wd ht s lv)])∧w'.ownsRow w.heap.size 163 5 v (kR wd ht s lv).length (eZ (kR wd ht s lv)))∧Below w.heap.size w w':=by
 have A0:=(ap w [J Z wd,J Z ht,.string s] 43).alloc (.cells #[.slice none 0 0,J Z 0] 160);have R0:=ap (w.alloc (.cells #[J Z wd,J Z ht,.string s] 43)) [.slice none 0 0,J Z 0] 160;have e1:(w.alloc (.cells #[J Z wd,J Z ht,.string s] 43)).heap.size=w.heap.size+1:=by simp
 rw[e1]at R0;have B0:=aF w (.cells #[J Z wd,J Z ht,.string s] 43) (.cells #[.slice none 0 0,J Z 0] 160);clear e1;go_enter Tryz.func153,Tryz.ntmps153;go_wp2_with fail;generalize (w.alloc (.cells #[J Z wd,J Z ht,.string s] 43)).alloc (.cells #[.slice none 0 0,J Z 0] 160)=W0 at A0 R0 B0 ⊢;obtain⟨ob,hob⟩:∃ob,ob=w.heap.size+1:=⟨_,rfl⟩
 obtain⟨fb,hfb⟩:∃fb,fb=w.heap.size:=⟨_,rfl⟩
 rw[←hob]at R0 ⊢;rw[←hfb]at A0 ⊢;have lfb:w.heap.size≤fb:=by omega
 have lob:w.heap.size≤ob:=by omega
 have lne:fb≠ob:=by omega
 clear hob hfb;refine(iP wd ht s _).mono ?_;rintro e W1 ⟨rfl,hx⟩;have A1:=A0.kept hx;have R1:=R0.kept hx;have B1:=aj B0 hx;clear hx A0 R0 B0;cases k1:di wd ht s
 case false=>
  have HV:=yz (qL (wd:=wd) (ht:=ht) (s:=s) (lv:=lv) (by unfold okB;rw[k1];rfl));have r0:=R1.cell 0 _ rfl;have r1:=R1.cell 1 _ rfl;have g0:=R1.free 0;have g1:=R1.free 1;go_wp2_with fail;rw[(yx HV).1,(yx HV).2];exact bodyPost_ret (v:=.agg #[.slice none 0 0,J Z 1]) (by simp[results,Tryz.results153,go_sem,r0,r1]) rfl ⟨⟨_,rfl,World.ownsRow_nil _ _ _ _⟩,(B1.setCell lob _).setCell lob _⟩
 go_wp2_with fail;refine(yj lv _).mono ?_;rintro e W2 ⟨rfl,hx⟩;have A2:=A1.kept hx;have R2:=R1.kept hx;have B2:=aj B1 hx;clear hx A1 R1 B1;cases k2:rV lv
 case false=>
  have HV:=yz (qL (wd:=wd) (ht:=ht) (s:=s) (lv:=lv) (by unfold okB;rw[k1,k2];rfl));have r0:=R2.cell 0 _ rfl;have r1:=R2.cell 1 _ rfl;have g0:=R2.free 0;have g1:=R2.free 1;go_wp2_with fail;rw[(yx HV).1,(yx HV).2];exact bodyPost_ret (v:=.agg #[.slice none 0 0,J Z 1]) (by simp[results,Tryz.results153,go_sem,r0,r1]) rfl ⟨⟨_,rfl,World.ownsRow_nil _ _ _ _⟩,(B2.setCell lob _).setCell lob _⟩
 have hok:okB wd ht s lv=true:=by unfold okB;rw[k1,k2];rfl
 obtain⟨f1,f2,f3,f4,f5⟩:=gO.1 k1;obtain⟨wn,hwn⟩:=Int.eq_ofNat_of_zero_le (show 0≤wd by omega);obtain⟨hn,hhn⟩:=Int.eq_ofNat_of_zero_le (show 0≤ht by omega);subst hwn hhn
 have hsz:s.size=wn*hn:=by
  have:((s.size:Nat):Int)=((wn*hn:Nat):Int):=by rw[f5];exact(Int.natCast_mul _ _).symm
  omega
 have HSZ:=yz hsz;have HOK:=yz hok;clear hsz hok k1 k2 f5 hs;have a0:=eP (A2);go_wp2_with fail;refine(rg wn hn s lv _ (by omega) (by omega) (by omega) (by omega) (yx HSZ)).mono ?_;rintro e W3 ⟨⟨k,v3,rfl,hk,hkk,hO⟩,hx⟩;have R3:=R2.kept hx;have B3:=aj B2 hx;have hob2:ob<W2.heap.size:=R2.lt;have hW2:=B2.size;clear A2 R2 B2 a0 hx;generalize hfe:ic wn hn s lv=f at *;have HF:=yz hfe;clear hfe;have HAL:Hid (tw wn hn s lv=(aP f s.size).2):=yz (by unfold tw;rw[←yx HF];rfl);obtain⟨a6,cap6,hv6⟩:=bM hO;subst hv6;have r0:=R3.cell 0 _ rfl;have r1:=R3.cell 1 _ rfl;have g0:=R3.free 0;have g1:=R3.free 1;by_cases h8:(aP f k).2.length≤8
 ·have hke:k=s.size:=by omega
  subst hke;have HV:=yz (yP (yx HOK) (by rw[yx HAL];exact h8));rw[yx HAL]at HV;have h8':¬(8:Int)<((aP f s.size).2.length:Int):=by omega
  have HO9:=eT hO (show w.heap.size≤W2.heap.size by omega)
  have HO10:=yI HO9 ob (by
   intro z e;have:=(hO.lt z e).1
   omega) (.slice a6 (aP f s.size).2.length cap6) (J Z 0)
  clear HO9 hO hkk;generalize aP f s.size=Sf at *;obtain⟨T1,S1⟩:=Sf;simp only at *;go_wp2_with fail;rw[(yx HV).1,(yx HV).2];exact bodyPost_ret (v:=.agg #[.slice a6 S1.length cap6,J Z 0]) (by simp[results,Tryz.results153,go_sem,r0,r1]) rfl ⟨⟨_,rfl,HO10⟩,(B3.setCell lob _).setCell lob _⟩
 ·have HV:=yz (vi (yx HOK) (by rw[yx HAL];have:=AF f k s.size hk (by omega);omega));have h8':(8:Int)<((aP f k).2.length:Int):=by omega
  clear hO hkk;generalize aP f k=Sf at *;obtain⟨T1,S1⟩:=Sf;simp only at *;go_wp2_with fail;rw[(yx HV).1,(yx HV).2];exact bodyPost_ret (v:=.agg #[.slice none 0 0,J Z 9]) (by simp[results,Tryz.results153,go_sem,r0,r1]) rfl ⟨⟨_,rfl,World.ownsRow_nil _ _ _ _⟩,(B3.setCell lob _).setCell lob _⟩
end
section
open Go.RowKit Go.Sort
variable {a a1 a2 a3 b b1 b2 b3 c d x y z:Int} {ids ids':List Int}
theorem pw{L:List St}{S:List D3}(s:Sg){n:Nat}(h:∀i,i<n→ids.getD i 0=ids'.getD i 0):jH L S ids s n=jH L S ids' s n:=by
 unfold jH;apply dt;intro i hi;have e1:=h i hi;have e2:bY L S ids i=bY L S ids' i:=by unfold bY;rw[e1]
 rw[e1,e2];congr 2
 apply dt;intro j hj;have e3:=h j (by omega);have e4:bY L S ids j=bY L S ids' j:=by unfold bY;rw[e3]
 rw[e3,e4]
theorem wF{L:List St}{S:List D3}{n:Nat}(h:∀i,i<n→ids.getD i 0=ids'.getD i 0):im L S ids n=im L S ids' n:=by
 unfold im;apply dt;intro i hi;have e1:=h i hi;have e2:bY L S ids i=bY L S ids' i:=by unfold bY;rw[e1]
 rw[e1,e2,pw _ (fun j hj=>h j (by omega))]
theorem Cl(ids:List Int)(a:Int){i:Nat}(h:i<ids.length):(ids ++ [a]).getD i 0=ids.getD i 0:=by rw[List.getD_eq_getElem?_getD,List.getD_eq_getElem?_getD,List.getElem?_append_left h]
theorem Ck(ids:List Int)(a:Int):(ids ++ [a]).getD ids.length 0=a:=by rw[List.getD_eq_getElem?_getD,List.getElem?_append_right (Nat.le_refl _),Nat.sub_self];rfl
theorem Gk(h:aN x y z=true):jd (x,y,z)=false:=by
 have:=(bC.1 (dD h).1).2;unfold jd;exact decide_eq_false this
theorem In{L:List St}(h:bk L=true){a:Int}(ha:a∈L.map (·.1)):jd (atV L L.length a)=false:=by
 obtain⟨s,hs,rfl⟩:=List.mem_map.1 ha;obtain⟨i,hi,rfl⟩:=List.getElem_of_mem hs;have e:L[i]=stA L i:=by unfold stA;rw[List.getD_eq_getElem?_getD,List.getElem?_eq_getElem hi];rfl
 rw[e,zK h hi];exact Gk (iU ((eu h).2 i hi))
theorem se{L:List St}{S:List D3}(hk:bk L=true)(h:im L S ids ids.length=true)(h2:a=0∨(a∈L.map (·.1)∧dB L S ids a=true)):im L S (ids ++ [a]) (ids ++ [a]).length=true:=by
 have e0:(ids ++ [a]).length=ids.length+1:=by simp
 rw[e0];unfold im;rw[eC]
 have e1:((List.range ids.length).all fun i=>decide ((ids ++ [a]).getD i 0=0) || (!jd (atV L L.length ((ids ++ [a]).getD i 0))&&jH L S (ids ++ [a]) (bY L S (ids ++ [a]) i) i))=true:=by
  have:=wF (L:=L) (S:=S) (ids:=ids ++ [a]) (ids':=ids) (n:=ids.length) (fun i hi=>Cl ids a hi);unfold im at this h;rw[this];exact h
 rw[e1,Bool.true_and,Ck];rcases h2 with rfl | ⟨hm,hf⟩
 ·rfl
 ·have e2:bY L S (ids ++ [a]) ids.length=(vA S ids.length,(a,atV L L.length a)):=by unfold bY;rw[Ck]
  rw[e2,In hk hm,pw _ (fun i hi=>Cl ids a hi)];unfold dB at hf;rw[hf];simp
theorem oM{L:List St}{S:List D3}(hk:bk L=true):∀(r:Nat) (ids l:List Int),im L S ids ids.length=true→l∈fH (dB L S) (L.map (·.1)) r ids→im L S l l.length=true
 | 0,ids,l,h,hl=>by
  simp only[fH,List.mem_singleton]at hl;subst hl;exact h
 | r+1,ids,l,h,hl=>by
  simp only[fH,List.mem_append,List.mem_flatMap]at hl;rcases hl with ⟨a,ha,hl⟩ | hl
  ·have:=List.mem_filter.1 ha;exact oM hk r _ l (se hk h (.inr this)) hl
  ·exact oM hk r _ l (se hk h (.inl rfl)) hl
theorem lO:∀(X:List (List Int)) (g:List Int×Nat),(g.2=0→aQ g.1<3)→(X.foldl dz g).2≠0→(X.foldl dz g).1∈X∨(g.2≠0∧(X.foldl dz g).1=g.1)
 | [],g,_,h=>.inr ⟨h,rfl⟩
 | x :: X,g,hg,h=>by
  rw[List.foldl_cons]at h ⊢;by_cases c1:aQ x<3∨aQ x<aQ g.1
  ·have e:dz g x=g:=by unfold dz;rw[if_pos c1]
   rw[e]at h ⊢;rcases lO X g hg h with h1 | h1
   ·exact .inl (List.mem_cons_of_mem _ h1)
   ·exact .inr h1
  ·by_cases c2:aQ g.1<aQ x
   ·have e:dz g x=(x,1):=by unfold dz;rw[if_neg c1,if_pos c2]
    rw[e]at h ⊢;rcases lO X (x,1) (fun h=>by cases h) h with h1 | ⟨_,h1⟩
    ·exact .inl (List.mem_cons_of_mem _ h1)
    ·rw[h1];exact .inl (List.mem_cons_self ..)
   ·have e:dz g x=(g.1,g.2+1):=by unfold dz;rw[if_neg c1,if_neg c2]
    have hne:g.2≠0:=fun e0=>by have:=hg e0;omega
    rw[e]at h ⊢;rcases lO X (g.1,g.2+1) (fun h=>by cases h) h with h1 | ⟨_,h1⟩
    ·exact .inl (List.mem_cons_of_mem _ h1)
    ·exact .inr ⟨hne,h1⟩
theorem pD{L:List St}{S:List D3}(hk:bk L=true)(hp:aL S=true)(h0:bU L S=0):bN L S (cx L S)=true:=by
 have hg:=mN L S
 have h2:(dJ L S).2=1:=by
  rw[hg.2.2]at h0;by_cases a:(dJ L S).2=0
  ·rw[if_pos a]at h0;cases h0
  ·rw[if_neg a]at h0;by_cases b:1<(dJ L S).2
   ·rw[if_pos b]at h0;cases h0
   ·omega
 rw[hg.1,if_pos h2]
 have hm:(dJ L S).1∈fH (dB L S) (L.map (·.1)) S.length []:=by
  rcases lO _ ([],0) (fun _=>by decide) (show (dJ L S).2≠0 by omega) with h | ⟨h,_⟩
  ·exact h
  ·exact absurd rfl h
 have hn:=oM hk S.length [] _ rfl hm;have hl:=lH _ _ _ _ _ hm;unfold bN;rw[hk,hp,←sd,hn,decide_eq_true (by simpa using hl)];rfl
theorem CP{L:List St}{S:List D3}(hk:bk L=true)(hp:aL S=true)(h0:bU L S=0):(if (au L S (cx L S) (cx L S).length).length<2 then ((0,0,0,0),10) else fZ (au L S (cx L S) (cx L S).length) (az 625))=kl L S (cx L S):=by
 have hn:=pD hk hp h0;have h12:=(eu hk).1;have h6:=(bK hp).1;have hl:=(gq hn).2.2.1;unfold kl;rw[if_neg (show ¬(400<L.length∨400<S.length∨400<(cx L S).length) by omega),if_pos hn]
theorem CH{v1 v2 v3 p1 p2 p3 q1 q2 q3:Int}(hv:¬(v1=0∧v2=0∧v3=0))(a1:v2*p3-v3*p2=0)(a2:v3*p1-v1*p3=0)(a3:v1*p2-v2*p1=0)(b1:v2*q3-v3*q2=0)(b2:v3*q1-v1*q3=0)(b3:v1*q2-v2*q1=0)
  (hp:0<dot v1 v2 v3 p1 p2 p3) (hq:0<dot v1 v2 v3 q1 q2 q3):(p2*q3-p3*q2=0∧p3*q1-p1*q3=0∧p1*q2-p2*q1=0)∧0<dot p1 p2 p3 q1 q2 q3:=by
 have hvv:=sW hv;obtain⟨V,hV⟩:∃V,dot v1 v2 v3 v1 v2 v3=V:=⟨_,rfl⟩
 obtain⟨P,hP⟩:∃P,dot v1 v2 v3 p1 p2 p3=P:=⟨_,rfl⟩
 obtain⟨Q,hQ⟩:∃Q,dot v1 v2 v3 q1 q2 q3=Q:=⟨_,rfl⟩
 have x1:V*p1=P*v1:=by rw[←hV,←hP];unfold dot;grind
 have x2:V*p2=P*v2:=by rw[←hV,←hP];unfold dot;grind
 have x3:V*p3=P*v3:=by rw[←hV,←hP];unfold dot;grind
 have y1:V*q1=Q*v1:=by rw[←hV,←hQ];unfold dot;grind
 have y2:V*q2=Q*v2:=by rw[←hV,←hQ];unfold dot;grind
 have y3:V*q3=Q*v3:=by rw[←hV,←hQ];unfold dot;grind
 rw[hV]at hvv;rw[hP]at hp;rw[hQ]at hq;have hVV:=Int.mul_pos hvv hvv
 have z:∀x:Int,V*V*x=0→x=0:=fun x h=>by
  rcases Int.mul_eq_zero.1 h with e | e
  ·omega
  ·exact e
 refine⟨⟨z _ (by grind),z _ (by grind),z _ (by grind)⟩,?_⟩
 have e:V*V*dot p1 p2 p3 q1 q2 q3=P*Q*V:=by
  rw[←hV]at *;unfold dot at *;grind
 have hpos:=Int.mul_pos (Int.mul_pos hp hq) hvv;rw[←e]at hpos;rcases Int.lt_or_le 0 (dot p1 p2 p3 q1 q2 q3) with h | h
 ·exact h
 ·have:=Int.mul_le_mul_of_nonneg_left h (Int.le_of_lt hVV);simp at this;omega
theorem sK(h:ez a1 a2 a3 b1 b2 b3=true):ax a1 a2 a3=true∧ax b1 b2 b3=true∧(a2*b3-a3*b2=0∧a3*b1-a1*b3=0∧a1*b2-a2*b1=0)∧0<dot a1 a2 a3 b1 b2 b3:=by
 unfold ez at h;simp only[Bool.and_eq_true,decide_eq_true_eq]at h;obtain⟨⟨⟨ra,rb⟩,hz⟩,hd⟩:=h;have a:=(bC.1 ra).1;have b:=(bC.1 rb).1;rw[dY (A:=1000000) (B:=1000000) (bj.2 a) (bj.2 b) (by omega)]at hd;rw[(eV a.2.1 a.2.2 b.2.1 b.2.2 (by omega)).1,(eV a.2.2 a.1 b.2.2 b.1 (by omega)).1,(eV a.1 a.2.1 b.1 b.2.1 (by omega)).1]at hz;unfold iw at hz;exact⟨ra,rb,of_decide_eq_true hz,hd⟩
theorem Ij(ra:ax a1 a2 a3=true)(rb:ax b1 b2 b3=true)(hc:a2*b3-a3*b2=0∧a3*b1-a1*b3=0∧a1*b2-a2*b1=0)(hd:0<dot a1 a2 a3 b1 b2 b3):ez a1 a2 a3 b1 b2 b3=true:=by
 have a:=(bC.1 ra).1;have b:=(bC.1 rb).1;unfold ez;rw[ra,rb,(eV a.2.1 a.2.2 b.2.1 b.2.2 (by omega)).1,(eV a.2.2 a.1 b.2.2 b.1 (by omega)).1,(eV a.1 a.2.1 b.1 b.2.1 (by omega)).1,dY (A:=1000000) (B:=1000000) (bj.2 a) (bj.2 b) (by omega),hc.1,hc.2.1,hc.2.2];simp[iw,hd]
theorem Gw(h:x*x+y*y+z*z=0):x=0∧y=0∧z=0:=by
 have h1:=sqn x;have h2:=sqn y;have h3:=sqn z;have e1:x*x=0:=by omega
 have e2:y*y=0:=by omega
 have e3:z*z=0:=by omega
 refine⟨?_,?_,?_⟩
 ·rcases Int.mul_eq_zero.1 e1 with e | e<;>exact e
 ·rcases Int.mul_eq_zero.1 e2 with e | e<;>exact e
 ·rcases Int.mul_eq_zero.1 e3 with e | e<;>exact e
theorem GS{s1 s2 s3 t1 t2 t3:Int}(ht:aE a b c d=true)(hs:ax s1 s2 s3=true)(hu:ax t1 t2 t3=true)
  (h:(apY a b c d s1 s2 s3*apZ a b c d t1 t2 t3-apZ a b c d s1 s2 s3*apY a b c d t1 t2 t3=0∧apZ a b c d s1 s2 s3*apX a b c d t1 t2 t3-apX a b c d s1 s2 s3*apZ a b c d t1 t2 t3=0∧apX a b c d s1 s2 s3*apY a b c d t1 t2 t3-apY a b c d s1 s2 s3*apX a b c d t1 t2 t3=0)∧0<dot (apX a b c d s1 s2 s3) (apY a b c d s1 s2 s3) (apZ a b c d s1 s2 s3) (apX a b c d t1 t2 t3) (apY a b c d t1 t2 t3) (apZ a b c d t1 t2 t3)):ez s1 s2 s3 t1 t2 t3=true:=by
 have hp:=Fo (oU ht);obtain⟨⟨h1,h2,h3⟩,h4⟩:=h;have d1:=vH a b c d s1 s2 s3 t1 t2 t3;have d2:=vH a b c d s1 s2 s3 s1 s2 s3;have d3:=vH a b c d t1 t2 t3 t1 t2 t3;generalize apX a b c d s1 s2 s3=p1 at *;generalize apY a b c d s1 s2 s3=p2 at *;generalize apZ a b c d s1 s2 s3=p3 at *;generalize apX a b c d t1 t2 t3=q1 at *;generalize apY a b c d t1 t2 t3=q2 at *;generalize apZ a b c d t1 t2 t3=q3 at *;generalize nT a b c d=N at *;have hNN:=Int.mul_pos hp hp;have hN4:=Int.mul_pos hNN hNN
 have lag:dot p1 p2 p3 p1 p2 p3*dot q1 q2 q3 q1 q2 q3=dot p1 p2 p3 q1 q2 q3*dot p1 p2 p3 q1 q2 q3:=by
  have e:dot p1 p2 p3 p1 p2 p3*dot q1 q2 q3 q1 q2 q3-dot p1 p2 p3 q1 q2 q3*dot p1 p2 p3 q1 q2 q3=(p2*q3-p3*q2)*(p2*q3-p3*q2)+(p3*q1-p1*q3)*(p3*q1-p1*q3)+(p1*q2-p2*q1)*(p1*q2-p2*q1):=by unfold dot;grind
  rw[h1,h2,h3]at e;omega
 rw[d1,d2,d3]at lag
 have e0:N*N*(N*N)*(dot s1 s2 s3 s1 s2 s3*dot t1 t2 t3 t1 t2 t3-dot s1 s2 s3 t1 t2 t3*dot s1 s2 s3 t1 t2 t3)=0:=by
  generalize dot s1 s2 s3 s1 s2 s3=x at *;generalize dot t1 t2 t3 t1 t2 t3=y at *;generalize dot s1 s2 s3 t1 t2 t3=z at *;grind
 have e1:dot s1 s2 s3 s1 s2 s3*dot t1 t2 t3 t1 t2 t3-dot s1 s2 s3 t1 t2 t3*dot s1 s2 s3 t1 t2 t3=0:=by
  rcases Int.mul_eq_zero.1 e0 with e | e
  ·omega
  ·exact e
 have e2:(s2*t3-s3*t2)*(s2*t3-s3*t2)+(s3*t1-s1*t3)*(s3*t1-s1*t3)+(s1*t2-s2*t1)*(s1*t2-s2*t1)=0:=by
  rw[←e1];unfold dot;grind
 refine Ij hs hu (Gw e2) ?_;rw[d1]at h4;rcases Int.lt_or_le 0 (dot s1 s2 s3 t1 t2 t3) with h | h
 ·exact h
 ·have:=Int.mul_le_mul_of_nonneg_left h (Int.le_of_lt hNN);simp at this;omega
theorem DT{L:List St}(h:bk L=true){i j:Nat}(hi:i<L.length)(hj:j<i):pR (stA L i) (stA L j)=false:=by
 have:=(eu h).2 i hi;unfold fA at this;simp only[Bool.and_eq_true]at this;have h2:fw L (stA L i) i=false:=by simpa using this.2
 unfold fw at h2;rw[List.any_eq_false]at h2;have:=h2 j (List.mem_range.2 hj);simpa using this
theorem Hp{L:List St}{v:D3}(hk:bk L=true)(ht:aE a b c d=true){i j:Nat}(hi:i<L.length)(hj:j<i)(h1:bS v (apD a b c d (stA L i).2)=true):bS v (apD a b c d (stA L j).2)=false:=by
 cases h2:bS v (apD a b c d (stA L j).2)
 ·rfl
 ·exfalso;unfold bS apD at h1 h2;obtain⟨rv,_,⟨b1,b2,b3⟩,b4⟩:=sK h1;obtain⟨_,_,⟨c1,c2,c3⟩,c4⟩:=sK h2;have:=CH (bC.1 rv).2 b1 b2 b3 c1 c2 c3 b4 c4;have e:=GS ht (dD (iU ((eu hk).2 i hi))).1 (dD (iU ((eu hk).2 j (by omega)))).1 this;have:=DT hk hi hj;unfold pR at this;rw[this]at e;cases e
theorem uH{L:List St}{v:D3}:∀k,(∀j,j<k→bS v (apD a b c d (stA L j).2)=false)→fh L a b c d v k=0
 | 0,_=>rfl
 | k+1,h=>by
  unfold fh;rw[uH k (fun j hj=>h j (by omega)),h k (by omega)];rfl
theorem Jm{L:List St}(h:bk L=true){i:Nat}(hi:i<L.length):(stA L i).1≠0:=by
 have:=(eu h).2 i hi;unfold fA idB at this;simp only[Bool.and_eq_true,decide_eq_true_eq]at this;omega
theorem BN{L:List St}{v:D3}(hk:bk L=true)(ht:aE a b c d=true):∀k,k≤L.length→fh L a b c d v k=if fj L a b c d v k≠0 then 1 else 0
 | 0,_=>rfl
 | k+1,h=>by
  unfold fh fj;cases hs:bS v (apD a b c d (stA L k).2)
  ·rw[BN hk ht k (by omega)];simp
  ·rw[uH k (fun j hj=>Hp hk ht (show k<L.length by omega) hj hs)];simp[Jm hk (show k<L.length by omega)]
theorem EV{L:List St}{S:List D3}(hk:bk L=true)(ht:aE a b c d=true)(hp:aL S=true):gc L a b c d S L.length S.length=aQ (bV L a b c d S):=by
 rw[uU hk ht hp]
 have:∀i,i≤S.length→gc L a b c d S L.length i=aQ ((S.map (fun v=>fj L a b c d v L.length)).take i):=by
  intro i
  induction i with
  | zero=>intro _;rfl
  | succ i ih=>
   intro hi;have hi':i<(S.map (fun v=>fj L a b c d v L.length)).length:=by rw[List.length_map];omega
   rw[ur _ hi',←ih (by omega)];show gc L a b c d S L.length i+fh L a b c d (vA S i) L.length=_;rw[BN hk ht _ (Nat.le_refl _)]
   have e:(S.map (fun v=>fj L a b c d v L.length)).getD i 0=fj L a b c d (vA S i) L.length:=by
    unfold vA;rw[List.getD_eq_getElem?_getD,List.getElem?_map,List.getElem?_eq_getElem (show i<S.length by omega),List.getD_eq_getElem?_getD,List.getElem?_eq_getElem (show i<S.length by omega)];rfl
   rw[e]
 have h:=this S.length (Nat.le_refl _);rw[h,List.take_of_length_le (by rw[List.length_map];exact Nat.le_refl _)]
end
section
open Go.Value renaming int → J
open Go.IntKind renaming i64 → Z
open Go.RowKit Go.Sort
theorem Ko{a b c d:Int}(h:inT 1000 a b c d=true)(g:Int)(hg:g=sT a b c d):wrap64 (a.tdiv g)=a.tdiv (sT a b c d)∧wrap64 (b.tdiv g)=b.tdiv (sT a b c d)∧wrap64 (c.tdiv g)=c.tdiv (sT a b c d)∧wrap64 (d.tdiv g)=d.tdiv (sT a b c d):=by
 subst hg;obtain⟨x1,x2,x3,x4⟩:=dx.1 h;have key:∀(x s:Int),-1000≤x∧x≤1000→wrap64 (x.tdiv s)=x.tdiv s:=fun x s hx=>by have:=Ct (s:=s) hx;exact aq (by omega) (by omega)
 exact⟨key _ _ x1,key _ _ x2,key _ _ x3,key _ _ x4⟩
theorem Dl(a b c d:Int)(w:World)(h:inT 1000 a b c d=true)(hz:je a b c d=false):
  Calls Tryz.prog 175 #[.agg #[J Z a,J Z b,J Z c,J Z d]] w fun e w'=>e=.returned (.agg #[J Z (ofP a b c d a),J Z (ofP a b c d b),J Z (ofP a b c d c),J Z (ofP a b c d d),J Z (ofC a b c d)])∧Below w.heap.size w w':=by
 have HI:=yz h;have HZ:=yz hz;have HN:Hid (sT a b c d≠0):=yz (IT (lG hz));have HW:=yz (Ko h);have hw:wrap64 (-gT a b c d) = -gT a b c d:=by have:=oF h 4;rw[show gS4 a b c d 4=gT a b c d from rF a b c d]at this;exact aq (by omega) (by omega)
 clear h hz;go_enter Tryz.func175,Tryz.ntmps175;go_wp2_with fail;refine(rT a b c d _ (yx HI)).mono ?_;rintro e w1 ⟨rfl,hB1⟩;have va:bd w1 w.heap.size a b c d:=((bh w a b c d _).alloc _).kept (by simp;omega) hB1;have vr:hH w1 (w.heap.size+1) 0 0 0 0 0:=(by simpa using gV (w.alloc _) 0 0 0 0 0 _:hH _ (w.heap.size+1) 0 0 0 0 0).kept hB1;have fr:kH w1 (w.heap.size+1):=(by simpa using jJ (w.alloc _) 0 0 0 0 0 _:kH _ (w.heap.size+1)).kept (by simp) hB1;have hB:Below w.heap.size w w1:=aj (aF _ _ _) hB1;clear hB1;have hva:=va;obtain⟨ca0,ca1,ca2,ca3⟩:=va;go_wp2_with fail;refine(kv a b c d _).mono ?_;rintro e w2 ⟨rfl,hB2⟩;have hlt:=vr.lt;have va:=hva.kept hva.lt hB2;replace vr:=vr.kept hB2;replace fr:=fr.kept hlt hB2;replace hB:=aj hB hB2;clear hB2 hva ca0 ca1 ca2 ca3 hlt;by_cases hf:fT a b c d<0
 ·have hs:sT a b c d = -gT a b c d:=by unfold sT;rw[if_pos hf]
  have HG:=yz hs.symm;rw[hs]at HN;have va2:=va.alloc (.cells #[J Z 0,J Z 0,J Z 0,J Z 0] 35);obtain⟨ca0,ca1,ca2,ca3⟩:=va;obtain⟨cb0,cb1,cb2,cb3⟩:=va2;go_wp2_with fail;rw[hw];generalize -gT a b c d=g at HN HG ⊢;clear hw hs hf;have hne:g≠0:=yx HN;have hz0:(g==0)=false:=by simpa using hne
  go_region
  go_wp2_with fail;obtain⟨e1,e2,e3,e4⟩:=yx HW g (yx HG);rw[e1,e2,e3,e4];clear e1 e2 e3 e4 HW cb0 cb1 cb2 cb3 ca0 ca1 ca2 ca3;cases hr:aE (a.tdiv (sT a b c d)) (b.tdiv (sT a b c d)) (c.tdiv (sT a b c d)) (d.tdiv (sT a b c d))
  ·have HR:=yz (wM (yx HI) (yx HZ) hr);generalize a.tdiv (sT a b c d)=p at hr ⊢;generalize b.tdiv (sT a b c d)=q at hr ⊢;generalize c.tdiv (sT a b c d)=r at hr ⊢;generalize d.tdiv (sT a b c d)=s at hr ⊢;have hx:=(ak w2 (.cells #[J Z p,J Z q,J Z r,J Z s] 35)).drew;have hlt:=vr.lt;replace vr:=vr.kept hx;replace fr:=fr.kept hlt hx;replace hB:=aj hB hx;clear hx hlt;refine(cp p q r s _).mono ?_;rintro e w3 ⟨rfl,hB3⟩;rw[hr];have hlt:=vr.lt;replace vr:=vr.kept hB3;replace fr:=fr.kept hlt hB3;replace hB:=aj hB hB3;clear hB3 hlt;obtain⟨cr0,cr1,cr2,cr3,cr4⟩:=vr;obtain⟨fr0,fr1,fr2,fr3,fr4⟩:=fr;go_wp2_with fail;exact bodyPost_ret (v:=.agg #[J Z 0,J Z 0,J Z 0,J Z 0,J Z 9]) (by simp[results,Tryz.results175,go_sem,cr0,cr1,cr2,cr3,cr4]) rfl ⟨by rw[yx HR],ck hB (by omega) _ _ _ _ _⟩
  ·have HR:=yz (FB (yx HI) (yx HZ) hr);generalize a.tdiv (sT a b c d)=p at hr HR ⊢;generalize b.tdiv (sT a b c d)=q at hr HR ⊢;generalize c.tdiv (sT a b c d)=r at hr HR ⊢;generalize d.tdiv (sT a b c d)=s at hr HR ⊢;have hx:=(ak w2 (.cells #[J Z p,J Z q,J Z r,J Z s] 35)).drew;have hlt:=vr.lt;have vt1:bd (w2.alloc (.cells #[J Z p,J Z q,J Z r,J Z s] 35)).drew w2.heap.size p q r s:=bh w2 p q r s _;replace vr:=vr.kept hx;replace fr:=fr.kept hlt hx;replace hB:=aj hB hx;clear hx hlt;refine(cp p q r s _).mono ?_;rintro e w3 ⟨rfl,hB3⟩;rw[hr];have hlt:=vr.lt;replace vr:=vr.kept hB3;replace fr:=fr.kept hlt hB3;replace vt1:=vt1.kept vt1.lt hB3;obtain⟨ct0,ct1,ct2,ct3⟩:=vt1;replace hB:=aj hB hB3;clear hB3 hlt;obtain⟨cr0,cr1,cr2,cr3,cr4⟩:=vr;obtain⟨fr0,fr1,fr2,fr3,fr4⟩:=fr;go_wp2_with fail;exact bodyPost_ret (v:=.agg #[J Z p,J Z q,J Z r,J Z s,J Z 0]) (by simp[results,Tryz.results175,go_sem,cr0,cr1,cr2,cr3,cr4]) rfl ⟨by rw[yx HR],ck hB (by omega) _ _ _ _ _⟩
 ·have hs:sT a b c d=gT a b c d:=by unfold sT;rw[if_neg hf]
  have HG:=yz hs.symm;rw[hs]at HN;have va2:=va.alloc (.cells #[J Z 0,J Z 0,J Z 0,J Z 0] 35);obtain⟨ca0,ca1,ca2,ca3⟩:=va;obtain⟨cb0,cb1,cb2,cb3⟩:=va2;go_wp2_with fail;generalize gT a b c d=g at HN HG ⊢;clear hw hs hf;have hne:g≠0:=yx HN;have hz0:(g==0)=false:=by simpa using hne
  go_region
  go_wp2_with fail;obtain⟨e1,e2,e3,e4⟩:=yx HW g (yx HG);rw[e1,e2,e3,e4];clear e1 e2 e3 e4 HW cb0 cb1 cb2 cb3 ca0 ca1 ca2 ca3;cases hr:aE (a.tdiv (sT a b c d)) (b.tdiv (sT a b c d)) (c.tdiv (sT a b c d)) (d.tdiv (sT a b c d))
  ·have HR:=yz (wM (yx HI) (yx HZ) hr);generalize a.tdiv (sT a b c d)=p at hr ⊢;generalize b.tdiv (sT a b c d)=q at hr ⊢;generalize c.tdiv (sT a b c d)=r at hr ⊢;generalize d.tdiv (sT a b c d)=s at hr ⊢;have hx:=(ak w2 (.cells #[J Z p,J Z q,J Z r,J Z s] 35)).drew;have hlt:=vr.lt;replace vr:=vr.kept hx;replace fr:=fr.kept hlt hx;replace hB:=aj hB hx;clear hx hlt;refine(cp p q r s _).mono ?_;rintro e w3 ⟨rfl,hB3⟩;rw[hr];have hlt:=vr.lt;replace vr:=vr.kept hB3;replace fr:=fr.kept hlt hB3;replace hB:=aj hB hB3;clear hB3 hlt;obtain⟨cr0,cr1,cr2,cr3,cr4⟩:=vr;obtain⟨fr0,fr1,fr2,fr3,fr4⟩:=fr;go_wp2_with fail;exact bodyPost_ret (v:=.agg #[J Z 0,J Z 0,J Z 0,J Z 0,J Z 9]) (by simp[results,Tryz.results175,go_sem,cr0,cr1,cr2,cr3,cr4]) rfl ⟨by rw[yx HR],ck hB (by omega) _ _ _ _ _⟩
  ·have HR:=yz (FB (yx HI) (yx HZ) hr);generalize a.tdiv (sT a b c d)=p at hr HR ⊢;generalize b.tdiv (sT a b c d)=q at hr HR ⊢;generalize c.tdiv (sT a b c d)=r at hr HR ⊢;generalize d.tdiv (sT a b c d)=s at hr HR ⊢;have hx:=(ak w2 (.cells #[J Z p,J Z q,J Z r,J Z s] 35)).drew;have hlt:=vr.lt;have vt1:bd (w2.alloc (.cells #[J Z p,J Z q,J Z r,J Z s] 35)).drew w2.heap.size p q r s:=bh w2 p q r s _;replace vr:=vr.kept hx;replace fr:=fr.kept hlt hx;replace hB:=aj hB hx;clear hx hlt;refine(cp p q r s _).mono ?_;rintro e w3 ⟨rfl,hB3⟩;rw[hr];have hlt:=vr.lt;replace vr:=vr.kept hB3;replace fr:=fr.kept hlt hB3;replace vt1:=vt1.kept vt1.lt hB3;obtain⟨ct0,ct1,ct2,ct3⟩:=vt1;replace hB:=aj hB hB3;clear hB3 hlt;obtain⟨cr0,cr1,cr2,cr3,cr4⟩:=vr;obtain⟨fr0,fr1,fr2,fr3,fr4⟩:=fr;go_wp2_with fail;exact bodyPost_ret (v:=.agg #[J Z p,J Z q,J Z r,J Z s,J Z 0]) (by simp[results,Tryz.results175,go_sem,cr0,cr1,cr2,cr3,cr4]) rfl ⟨by rw[yx HR],ck hB (by omega) _ _ _ _ _⟩
theorem sQ(a b c d:Int)(w:World):
  Calls Tryz.prog 140 #[J Z a,J Z b,J Z c,J Z d] w fun e w'=>e=.returned (.agg #[J Z (ofP a b c d a),J Z (ofP a b c d b),J Z (ofP a b c d c),J Z (ofP a b c d d),J Z (ofC a b c d)])∧Below w.heap.size w w':=by
 go_enter Tryz.func140,Tryz.ntmps140;go_wp2_with fail;refine(mF 1000 a b c d _ (by omega) (by omega)).mono ?_;rintro e w1 ⟨rfl,hB1⟩;have vr:hH w1 w.heap.size 0 0 0 0 0:=((gV w 0 0 0 0 0 _).alloc _).kept hB1;have fr:kH w1 w.heap.size:=((jJ w 0 0 0 0 0 _).kept (by simp) (ak _ _)).kept (by simp;omega) hB1;have va:bd w1 (w.heap.size+1) a b c d:=(by simpa using bh (w.alloc _) a b c d _:bd _ (w.heap.size+1) a b c d).kept (by simp) hB1;have hB:Below w.heap.size w w1:=aj (aF _ _ _) hB1;clear hB1;cases hi:inT 1000 a b c d
 ·have HR:=yz (qH (a:=a) (b:=b) (c:=c) (d:=d) (by rw[hi];rfl));obtain⟨cr0,cr1,cr2,cr3,cr4⟩:=vr;obtain⟨fr0,fr1,fr2,fr3,fr4⟩:=fr;go_wp2_with fail;exact bodyPost_ret (v:=.agg #[J Z 0,J Z 0,J Z 0,J Z 0,J Z 1]) (by simp[results,Tryz.results140,go_sem,cr0,cr1,cr2,cr3,cr4]) rfl ⟨by rw[yx HR],ck hB (by omega) _ _ _ _ _⟩
 ·have hva:=va;obtain⟨ca0,ca1,ca2,ca3⟩:=va;go_wp2_with fail;refine(kv a b c d _).mono ?_;rintro e w2 ⟨rfl,hB2⟩;have hlt:=vr.lt;replace vr:=vr.kept hB2;replace fr:=fr.kept hlt hB2;have va:=hva.kept hva.lt hB2;replace hB:=aj hB hB2;clear hB2 hva ca0 ca1 ca2 ca3 hlt;by_cases hf:fT a b c d=0
  ·have HR:=yz (qH (a:=a) (b:=b) (c:=c) (d:=d) (by rw[md.2 (qD.1 hf)];simp));rw[hf];obtain⟨cr0,cr1,cr2,cr3,cr4⟩:=vr;obtain⟨fr0,fr1,fr2,fr3,fr4⟩:=fr;go_wp2_with fail;exact bodyPost_ret (v:=.agg #[J Z 0,J Z 0,J Z 0,J Z 0,J Z 1]) (by simp[results,Tryz.results140,go_sem,cr0,cr1,cr2,cr3,cr4]) rfl ⟨by rw[yx HR],ck hB (by omega) _ _ _ _ _⟩
  ·have HZ:Hid (je a b c d=false):=yz (by rw[←Bool.not_eq_true,md];exact fun e=>hf (qD.2 e));have hb:(fT a b c d==0)=false:=by simpa using hf
   clear hf;obtain⟨ca0,ca1,ca2,ca3⟩:=va;go_wp2_with fail;refine(Dl a b c d _ hi (yx HZ)).mono ?_;rintro e w3 ⟨rfl,hB3⟩;have hlt:=vr.lt;replace vr:=vr.kept hB3;replace fr:=fr.kept hlt hB3;replace hB:=aj hB hB3;clear hB3 ca0 ca1 ca2 ca3 hlt;obtain⟨cr0,cr1,cr2,cr3,cr4⟩:=vr;obtain⟨fr0,fr1,fr2,fr3,fr4⟩:=fr;go_wp2_with fail;exact bodyPost_ret (v:=.agg #[J Z (ofP a b c d a),J Z (ofP a b c d b),J Z (ofP a b c d c),J Z (ofP a b c d d),J Z (ofC a b c d)]) (by simp[results,Tryz.results140,go_sem,cr0,cr1,cr2,cr3,cr4]) rfl ⟨rfl,ck hB (by omega) _ _ _ _ _⟩
variable {s1 s2 s3 s4 t1 t2 t3 t4:Int}
theorem BF(h:coR s1 s2 s3 s4 t1 t2 t3 t4=false):Value.agg #[J Z (coP s1 s2 s3 s4 t1 t2 t3 t4 (coA s1 s2 s3 s4 t1 t2 t3 t4)),J Z (coP s1 s2 s3 s4 t1 t2 t3 t4 (coB s1 s2 s3 s4 t1 t2 t3 t4)),J Z (coP s1 s2 s3 s4 t1 t2 t3 t4 (coC s1 s2 s3 s4 t1 t2 t3 t4)),J Z (coP s1 s2 s3 s4 t1 t2 t3 t4 (coD s1 s2 s3 s4 t1 t2 t3 t4)),J Z (coK s1 s2 s3 s4 t1 t2 t3 t4)]=Value.agg #[J Z 0,J Z 0,J Z 0,J Z 0,J Z 1]:=by
 unfold coP coK;rw[h];rfl
theorem IJ(h:coR s1 s2 s3 s4 t1 t2 t3 t4=true):Value.agg #[J Z (coP s1 s2 s3 s4 t1 t2 t3 t4 (coA s1 s2 s3 s4 t1 t2 t3 t4)),J Z (coP s1 s2 s3 s4 t1 t2 t3 t4 (coB s1 s2 s3 s4 t1 t2 t3 t4)),J Z (coP s1 s2 s3 s4 t1 t2 t3 t4 (coC s1 s2 s3 s4 t1 t2 t3 t4)),J Z (coP s1 s2 s3 s4 t1 t2 t3 t4 (coD s1 s2 s3 s4 t1 t2 t3 t4)),J Z (coK s1 s2 s3 s4 t1 t2 t3 t4)]=Value.agg #[J Z (ofP (coA s1 s2 s3 s4 t1 t2 t3 t4) (coB s1 s2 s3 s4 t1 t2 t3 t4) (coC s1 s2 s3 s4 t1 t2 t3 t4) (coD s1 s2 s3 s4 t1 t2 t3 t4) (coA s1 s2 s3 s4 t1 t2 t3 t4)),J Z (ofP (coA s1 s2 s3 s4 t1 t2 t3 t4) (coB s1 s2 s3 s4 t1 t2 t3 t4) (coC s1 s2 s3 s4 t1 t2 t3 t4) (coD s1 s2 s3 s4 t1 t2 t3 t4) (coB s1 s2 s3 s4 t1 t2 t3 t4)),J Z (ofP (coA s1 s2 s3 s4 t1 t2 t3 t4) (coB s1 s2 s3 s4 t1 t2 t3 t4) (coC s1 s2 s3 s4 t1 t2 t3 t4) (coD s1 s2 s3 s4 t1 t2 t3 t4) (coC s1 s2 s3 s4 t1 t2 t3 t4)),J Z (ofP (coA s1 s2 s3 s4 t1 t2 t3 t4) (coB s1 s2 s3 s4 t1 t2 t3 t4) (coC s1 s2 s3 s4 t1 t2 t3 t4) (coD s1 s2 s3 s4 t1 t2 t3 t4) (coD s1 s2 s3 s4 t1 t2 t3 t4)),J Z (ofC (coA s1 s2 s3 s4 t1 t2 t3 t4) (coB s1 s2 s3 s4 t1 t2 t3 t4) (coC s1 s2 s3 s4 t1 t2 t3 t4) (coD s1 s2 s3 s4 t1 t2 t3 t4))]:=by
 unfold coP coK;rw[h];rfl
theorem CA(s1 s2 s3 s4 t1 t2 t3 t4:Int)(w:World)(hs:inT 5 s1 s2 s3 s4=true)(ht:inT 5 t1 t2 t3 t4=true):
  Calls Tryz.prog 180 #[.agg #[J Z s1,J Z s2,J Z s3,J Z s4],.agg #[J Z t1,J Z t2,J Z t3,J Z t4]] w fun e w'=>e=.returned (.agg #[J Z (coA s1 s2 s3 s4 t1 t2 t3 t4),J Z (coB s1 s2 s3 s4 t1 t2 t3 t4),J Z (coC s1 s2 s3 s4 t1 t2 t3 t4),J Z (coD s1 s2 s3 s4 t1 t2 t3 t4)])∧Below w.heap.size w w':=by
 have HA:=yz (IF hs ht).1;have HB:=yz (IG hs ht).1;have HC:=yz (IH hs ht).1;have HD:=yz (II hs ht).1;clear hs ht;go_enter Tryz.func180,Tryz.ntmps180;go_wp2;rw[yx HA,yx HB,yx HC,yx HD];exact bodyPost_ret (v:=.agg #[J Z (coA s1 s2 s3 s4 t1 t2 t3 t4),J Z (coB s1 s2 s3 s4 t1 t2 t3 t4),J Z (coC s1 s2 s3 s4 t1 t2 t3 t4),J Z (coD s1 s2 s3 s4 t1 t2 t3 t4)]) (by simp[results,Tryz.results180,go_sem]) rfl ⟨rfl,bq _ _ _ _⟩
theorem rS(s1 s2 s3 s4 t1 t2 t3 t4:Int)(w:World)(hs:inT 5 s1 s2 s3 s4=true)(ht:inT 5 t1 t2 t3 t4=true):
  Calls Tryz.prog 107 #[.agg #[J Z s1,J Z s2,J Z s3,J Z s4],.agg #[J Z t1,J Z t2,J Z t3,J Z t4]] w fun e w'=>e=.returned (.agg #[J Z (ofP (coA s1 s2 s3 s4 t1 t2 t3 t4) (coB s1 s2 s3 s4 t1 t2 t3 t4) (coC s1 s2 s3 s4 t1 t2 t3 t4) (coD s1 s2 s3 s4 t1 t2 t3 t4) (coA s1 s2 s3 s4 t1 t2 t3 t4)),J Z (ofP (coA s1 s2 s3 s4 t1 t2 t3 t4) (coB s1 s2 s3 s4 t1 t2 t3 t4) (coC s1 s2 s3 s4 t1 t2 t3 t4) (coD s1 s2 s3 s4 t1 t2 t3 t4) (coB s1 s2 s3 s4 t1 t2 t3 t4)),J Z (ofP (coA s1 s2 s3 s4 t1 t2 t3 t4) (coB s1 s2 s3 s4 t1 t2 t3 t4) (coC s1 s2 s3 s4 t1 t2 t3 t4) (coD s1 s2 s3 s4 t1 t2 t3 t4) (coC s1 s2 s3 s4 t1 t2 t3 t4)),J Z (ofP (coA s1 s2 s3 s4 t1 t2 t3 t4) (coB s1 s2 s3 s4 t1 t2 t3 t4) (coC s1 s2 s3 s4 t1 t2 t3 t4) (coD s1 s2 s3 s4 t1 t2 t3 t4) (coD s1 s2 s3 s4 t1 t2 t3 t4)),J Z (ofC (coA s1 s2 s3 s4 t1 t2 t3 t4) (coB s1 s2 s3 s4 t1 t2 t3 t4) (coC s1 s2 s3 s4 t1 t2 t3 t4) (coD s1 s2 s3 s4 t1 t2 t3 t4))])∧Below w.heap.size w w':=by
 have HA:=yz (IF hs ht).1;have HB:=yz (IG hs ht).1;have HC:=yz (IH hs ht).1;have HD:=yz (II hs ht).1;clear hs ht;go_enter Tryz.func107,Tryz.ntmps107;go_wp2_with fail;rw[yx HA,yx HB,yx HC,yx HD];refine(sQ _ _ _ _ _).mono ?_;rintro e w1 ⟨rfl,hx⟩;have vr:hH w1 (w.heap.size+1+1) 0 0 0 0 0:=(by simpa using gV ((w.alloc _).alloc _) 0 0 0 0 0 _:hH _ (w.heap.size+1+1) 0 0 0 0 0).kept hx;have fr:kH w1 (w.heap.size+1+1):=(by simpa using jJ ((w.alloc _).alloc _) 0 0 0 0 0 _:kH _ (w.heap.size+1+1)).kept (by simp) hx;have hB:Below w.heap.size w w1:=aj (bq _ _ _ _) hx;clear hx HA HB HC HD;obtain⟨cr0,cr1,cr2,cr3,cr4⟩:=vr;obtain⟨fr0,fr1,fr2,fr3,fr4⟩:=fr;go_wp2_with fail;exact bodyPost_ret (v:=.agg #[J Z (ofP (coA s1 s2 s3 s4 t1 t2 t3 t4) (coB s1 s2 s3 s4 t1 t2 t3 t4) (coC s1 s2 s3 s4 t1 t2 t3 t4) (coD s1 s2 s3 s4 t1 t2 t3 t4) (coA s1 s2 s3 s4 t1 t2 t3 t4)),J Z (ofP (coA s1 s2 s3 s4 t1 t2 t3 t4) (coB s1 s2 s3 s4 t1 t2 t3 t4) (coC s1 s2 s3 s4 t1 t2 t3 t4) (coD s1 s2 s3 s4 t1 t2 t3 t4) (coB s1 s2 s3 s4 t1 t2 t3 t4)),J Z (ofP (coA s1 s2 s3 s4 t1 t2 t3 t4) (coB s1 s2 s3 s4 t1 t2 t3 t4) (coC s1 s2 s3 s4 t1 t2 t3 t4) (coD s1 s2 s3 s4 t1 t2 t3 t4) (coC s1 s2 s3 s4 t1 t2 t3 t4)),J Z (ofP (coA s1 s2 s3 s4 t1 t2 t3 t4) (coB s1 s2 s3 s4 t1 t2 t3 t4) (coC s1 s2 s3 s4 t1 t2 t3 t4) (coD s1 s2 s3 s4 t1 t2 t3 t4) (coD s1 s2 s3 s4 t1 t2 t3 t4)),J Z (ofC (coA s1 s2 s3 s4 t1 t2 t3 t4) (coB s1 s2 s3 s4 t1 t2 t3 t4) (coC s1 s2 s3 s4 t1 t2 t3 t4) (coD s1 s2 s3 s4 t1 t2 t3 t4))]) (by simp[results,Tryz.results107,go_sem,cr0,cr1,cr2,cr3,cr4]) rfl ⟨rfl,ck hB (by omega) _ _ _ _ _⟩
theorem xH(s1 s2 s3 s4 t1 t2 t3 t4:Int)(w:World):
  Calls Tryz.prog 148 #[.agg #[J Z s1,J Z s2,J Z s3,J Z s4],.agg #[J Z t1,J Z t2,J Z t3,J Z t4]] w fun e w'=>e=.returned (.agg #[J Z (coP s1 s2 s3 s4 t1 t2 t3 t4 (coA s1 s2 s3 s4 t1 t2 t3 t4)),J Z (coP s1 s2 s3 s4 t1 t2 t3 t4 (coB s1 s2 s3 s4 t1 t2 t3 t4)),J Z (coP s1 s2 s3 s4 t1 t2 t3 t4 (coC s1 s2 s3 s4 t1 t2 t3 t4)),J Z (coP s1 s2 s3 s4 t1 t2 t3 t4 (coD s1 s2 s3 s4 t1 t2 t3 t4)),J Z (coK s1 s2 s3 s4 t1 t2 t3 t4)])∧Below w.heap.size w w':=by
 go_enter Tryz.func148,Tryz.ntmps148;go_wp2_with fail;refine(bO s1 s2 s3 s4 _).mono ?_;rintro e w1 ⟨rfl,hx⟩;have va:bd w1 w.heap.size s1 s2 s3 s4:=(((bh w s1 s2 s3 s4 _).alloc _).alloc _).kept (by simp;omega) hx;have vb:bd w1 (w.heap.size+1) t1 t2 t3 t4:=((by simpa using bh (w.alloc _) t1 t2 t3 t4 _:bd _ (w.heap.size+1) t1 t2 t3 t4).alloc _).kept (by simp) hx;have vr:hH w1 (w.heap.size+1+1) 0 0 0 0 0:=(by simpa using gV ((w.alloc _).alloc _) 0 0 0 0 0 _:hH _ (w.heap.size+1+1) 0 0 0 0 0).kept hx;have fr:kH w1 (w.heap.size+1+1):=(by simpa using jJ ((w.alloc _).alloc _) 0 0 0 0 0 _:kH _ (w.heap.size+1+1)).kept (by simp) hx;have hB:Below w.heap.size w w1:=aj (bq _ _ _ _) hx;clear hx;cases h1:aE s1 s2 s3 s4
 ·have HR:=yz (BF (s1:=s1) (s2:=s2) (s3:=s3) (s4:=s4) (t1:=t1) (t2:=t2) (t3:=t3) (t4:=t4) (by rw[coR,h1];rfl));obtain⟨cr0,cr1,cr2,cr3,cr4⟩:=vr;obtain⟨fr0,fr1,fr2,fr3,fr4⟩:=fr;go_wp2_with fail;exact bodyPost_ret (v:=.agg #[J Z 0,J Z 0,J Z 0,J Z 0,J Z 1]) (by simp[results,Tryz.results148,go_sem,cr0,cr1,cr2,cr3,cr4]) rfl ⟨by rw[yx HR],ck hB (by omega) _ _ _ _ _⟩
 ·have wa:=va;have wb:=vb;obtain⟨ca0,ca1,ca2,ca3⟩:=wa;obtain⟨cb0,cb1,cb2,cb3⟩:=wb;go_wp2_with fail;clear ca0 ca1 ca2 ca3 cb0 cb1 cb2 cb3;refine(bO t1 t2 t3 t4 _).mono ?_;rintro e w2 ⟨rfl,hx⟩;have hlt:=vr.lt;replace va:=va.kept va.lt hx;replace vb:=vb.kept vb.lt hx;replace vr:=vr.kept hx;replace fr:=fr.kept hlt hx;replace hB:=aj hB hx;clear hx hlt;cases h2:aE t1 t2 t3 t4
  ·have HR:=yz (BF (s1:=s1) (s2:=s2) (s3:=s3) (s4:=s4) (t1:=t1) (t2:=t2) (t3:=t3) (t4:=t4) (by rw[coR,h1,h2];rfl));obtain⟨cr0,cr1,cr2,cr3,cr4⟩:=vr;obtain⟨fr0,fr1,fr2,fr3,fr4⟩:=fr;go_wp2_with fail;exact bodyPost_ret (v:=.agg #[J Z 0,J Z 0,J Z 0,J Z 0,J Z 1]) (by simp[results,Tryz.results148,go_sem,cr0,cr1,cr2,cr3,cr4]) rfl ⟨by rw[yx HR],ck hB (by omega) _ _ _ _ _⟩
  ·have wa:=va;have wb:=vb;obtain⟨ca0,ca1,ca2,ca3⟩:=wa;obtain⟨cb0,cb1,cb2,cb3⟩:=wb;go_wp2_with fail;clear ca0 ca1 ca2 ca3 cb0 cb1 cb2 cb3;have HR:=yz (IJ (s1:=s1) (s2:=s2) (s3:=s3) (s4:=s4) (t1:=t1) (t2:=t2) (t3:=t3) (t4:=t4) (by rw[coR,h1,h2];rfl));refine(CA s1 s2 s3 s4 t1 t2 t3 t4 _ (du.1 h1).1 (du.1 h2).1).mono ?_;rintro e w3 ⟨rfl,hx⟩;have hlt:=vr.lt;replace vr:=(vr.kept hx).alloc (.cells #[J Z (coA s1 s2 s3 s4 t1 t2 t3 t4),J Z (coB s1 s2 s3 s4 t1 t2 t3 t4),J Z (coC s1 s2 s3 s4 t1 t2 t3 t4),J Z (coD s1 s2 s3 s4 t1 t2 t3 t4)] 35);replace fr:=(fr.kept hlt hx).kept (Nat.lt_of_lt_of_le hlt hx.size) (ak _ (.cells #[J Z (coA s1 s2 s3 s4 t1 t2 t3 t4),J Z (coB s1 s2 s3 s4 t1 t2 t3 t4),J Z (coC s1 s2 s3 s4 t1 t2 t3 t4),J Z (coD s1 s2 s3 s4 t1 t2 t3 t4)] 35));replace hB:=(aj hB hx).alloc (aj hB hx).size (.cells #[J Z (coA s1 s2 s3 s4 t1 t2 t3 t4),J Z (coB s1 s2 s3 s4 t1 t2 t3 t4),J Z (coC s1 s2 s3 s4 t1 t2 t3 t4),J Z (coD s1 s2 s3 s4 t1 t2 t3 t4)] 35);clear hx hlt va vb;go_wp2_with fail;refine(AY _ _ _ _ _).mono ?_;rintro e w4 ⟨rfl,hx⟩;have hlt:=vr.lt;replace vr:=vr.kept hx;replace fr:=fr.kept hlt hx;replace hB:=aj hB hx;clear hx hlt;obtain⟨cr0,cr1,cr2,cr3,cr4⟩:=vr;obtain⟨fr0,fr1,fr2,fr3,fr4⟩:=fr;go_wp2_with fail;exact bodyPost_ret (v:=.agg #[J Z (ofP (coA s1 s2 s3 s4 t1 t2 t3 t4) (coB s1 s2 s3 s4 t1 t2 t3 t4) (coC s1 s2 s3 s4 t1 t2 t3 t4) (coD s1 s2 s3 s4 t1 t2 t3 t4) (coA s1 s2 s3 s4 t1 t2 t3 t4)),J Z (ofP (coA s1 s2 s3 s4 t1 t2 t3 t4) (coB s1 s2 s3 s4 t1 t2 t3 t4) (coC s1 s2 s3 s4 t1 t2 t3 t4) (coD s1 s2 s3 s4 t1 t2 t3 t4) (coB s1 s2 s3 s4 t1 t2 t3 t4)),J Z (ofP (coA s1 s2 s3 s4 t1 t2 t3 t4) (coB s1 s2 s3 s4 t1 t2 t3 t4) (coC s1 s2 s3 s4 t1 t2 t3 t4) (coD s1 s2 s3 s4 t1 t2 t3 t4) (coC s1 s2 s3 s4 t1 t2 t3 t4)),J Z (ofP (coA s1 s2 s3 s4 t1 t2 t3 t4) (coB s1 s2 s3 s4 t1 t2 t3 t4) (coC s1 s2 s3 s4 t1 t2 t3 t4) (coD s1 s2 s3 s4 t1 t2 t3 t4) (coD s1 s2 s3 s4 t1 t2 t3 t4)),J Z (ofC (coA s1 s2 s3 s4 t1 t2 t3 t4) (coB s1 s2 s3 s4 t1 t2 t3 t4) (coC s1 s2 s3 s4 t1 t2 t3 t4) (coD s1 s2 s3 s4 t1 t2 t3 t4))]) (by simp[results,Tryz.results148,go_sem,cr0,cr1,cr2,cr3,cr4]) rfl ⟨by rw[yx HR],ck hB (by omega) _ _ _ _ _⟩
def dk(w:World)(b:Nat)(v:Value)(lim mode A B C D coast fr:Int):Prop:=w.cell? ⟨b,0,none⟩=some v∧w.cell? ⟨b,1,none⟩=some (J Z lim)∧w.cell? ⟨b,2,none⟩=some (J Z mode)∧w.cell? ⟨b,3,none⟩=some (J Z A)∧w.cell? ⟨b,4,none⟩=some (J Z B)∧w.cell? ⟨b,5,none⟩=some (J Z C)∧w.cell? ⟨b,6,none⟩=some (J Z D)∧w.cell? ⟨b,7,none⟩=some (J Z coast)∧w.cell? ⟨b,8,none⟩=some (J Z fr)
variable {b:Nat} {v:Value} {w w':World}
theorem mu{a:Addr}(h:w.cell? a=some v)(hB:Below w.heap.size w w'):w'.cell? a=some v:=(hB.cell (World.block_lt_of_cell? w a h)).trans h
theorem dk.kept{lim mode A B C D coast fr:Int}(h:dk w b v lim mode A B C D coast fr)(hB:Below w.heap.size w w'):dk w' b v lim mode A B C D coast fr:=by
 obtain⟨h0,h1,h2,h3,h4,h5,h6,h7,h8⟩:=h;exact⟨mu h0 hB,mu h1 hB,mu h2 hB,mu h3 hB,mu h4 hB,mu h5 hB,mu h6 hB,mu h7 hB,mu h8 hB⟩
theorem bL(w:World)(v:Value)(lim mode A B C D coast fr:Int)(t:TypeId):dk (w.alloc (.cells #[v,J Z lim,J Z mode,J Z A,J Z B,J Z C,J Z D,J Z coast,J Z fr] t)) w.heap.size v lim mode A B C D coast fr:=by
 refine⟨?_,?_,?_,?_,?_,?_,?_,?_,?_⟩<;>simp
theorem dk.lt{lim mode A B C D coast fr:Int}(h:dk w b v lim mode A B C D coast fr):b<w.heap.size:=World.block_lt_of_cell? w _ h.1
theorem fP(L:List St)(lim mode A B C D coast fr:Int)(a:Option Addr)(c:Nat)(p:Addr)(w:World)(hn:L.length≤1048576)(hcap:L.length≤c)(hc9:c≤9223372036854775807)(hS:aH w a L L.length)(hE:bm p w):
  Calls Tryz.prog 48 #[.agg #[.slice a L.length c,J Z lim,J Z mode,J Z A,J Z B,J Z C,J Z D,J Z coast,J Z fr]] w fun e w'=>e=.returned (.bool (aZ ⟨L,lim,mode,A,B,C,D,coast,fr⟩))∧Below w.heap.size w w':=by
 have B0:=ak w (.cells #[.slice a L.length c,J Z lim,J Z mode,J Z A,J Z B,J Z C,J Z D,J Z coast,J Z fr] 37);have T0:=bL w (.slice a L.length c) lim mode A B C D coast fr 37;have cS:=yz (gE L a c p _ hn hcap hc9 (hS.kept B0) (hE.kept B0));have HB0:=yz B0;have HT0:=yz T0;clear B0 T0 hS hE hn hcap hc9;go_enter Tryz.func48,Tryz.ntmps48;go_wp2_with fail;refine(yx cS).mono ?_;rintro e w1 ⟨rfl,hx⟩;have T1:=an HT0 hx;have B1:=aA HB0 hx;clear hx cS HT0 HB0;obtain⟨c0,c1,c2,c3,c4,c5,c6,c7,c8⟩:=yx T1;cases hk:bk L
 ·have HO:=yz (vw (t:=⟨L,lim,mode,A,B,C,D,coast,fr⟩) hk);go_wp2_with fail;go_ret;exact⟨by rw[yx HO];rfl,yx B1⟩
 by_cases q1:lim<1
 ·have HO:=yz (pi (t:=⟨L,lim,mode,A,B,C,D,coast,fr⟩) (lA (by show ¬1≤lim;omega)));go_wp2_with fail;go_ret;exact⟨by rw[yx HO];rfl,yx B1⟩
 by_cases q2:(5:Int)<lim
 ·have HO:=yz (pi (t:=⟨L,lim,mode,A,B,C,D,coast,fr⟩) (vl (by show ¬lim≤5;omega)));go_wp2_with fail;go_ret;exact⟨by rw[yx HO];rfl,yx B1⟩
 by_cases q3:fr<0
 ·have HO:=yz (pj (t:=⟨L,lim,mode,A,B,C,D,coast,fr⟩) (lA (by show ¬0≤fr;omega)));go_wp2_with fail;go_ret;exact⟨by rw[yx HO];rfl,yx B1⟩
 by_cases q4:(1000000:Int)<fr
 ·have HO:=yz (pj (t:=⟨L,lim,mode,A,B,C,D,coast,fr⟩) (vl (by show ¬fr≤1000000;omega)));go_wp2_with fail;go_ret;exact⟨by rw[yx HO];rfl,yx B1⟩
 have HH:=yz (ti (t:=⟨L,lim,mode,A,B,C,D,coast,fr⟩) hk (yY (by show 1≤lim;omega) (by show lim≤5;omega)) (yY (by show 0≤fr;omega) (by show fr≤1000000;omega)));clear hk;by_cases m0:mode=0
 ·have HO:Hid (aZ ⟨L,lim,mode,A,B,C,D,coast,fr⟩=(eqT A B C D 0 0 0 0&&decide (coast=0))):=yz (by rw[yx HH,Fm m0]);have hq:=fun W=>fO A B C D 0 0 0 0 W;cases hz:eqT A B C D 0 0 0 0
  ·rw[hz]at HO hq;go_wp2_with fail;go_ret;exact⟨by rw[yx HO];rfl,yx B1⟩
  ·rw[hz]at HO hq;go_wp2_with fail;go_ret;exact⟨by rw[yx HO];rfl,yx B1⟩
 by_cases m1:mode=1
 ·have HO:Hid (aZ ⟨L,lim,mode,A,B,C,D,coast,fr⟩=(aE A B C D&&decide (coast=0))):=yz (by rw[yx HH,Al m1]);subst m1;go_wp2_with fail;refine(bO A B C D _).mono ?_;rintro e w2 ⟨rfl,hx⟩;have B2:=aA B1 hx;obtain⟨d0,d1,d2,d3,d4,d5,d6,d7,d8⟩:=(yx T1).kept hx;clear hx c0 c1 c2 c3 c4 c5 c6 c7 c8;cases hz:aE A B C D
  ·rw[hz]at HO;go_wp2_with fail;go_ret;exact⟨by rw[yx HO];rfl,yx B2⟩
  ·rw[hz]at HO;go_wp2_with fail;go_ret;exact⟨by rw[yx HO];rfl,yx B2⟩
 by_cases m2:mode=2
 ·have HO:Hid (aZ ⟨L,lim,mode,A,B,C,D,coast,fr⟩=(aE A B C D&&bE 1 lim coast)):=yz (by rw[yx HH,Am m2]);subst m2;go_wp2_with fail;refine(bO A B C D _).mono ?_;rintro e w2 ⟨rfl,hx⟩;have B2:=aA B1 hx;obtain⟨d0,d1,d2,d3,d4,d5,d6,d7,d8⟩:=(yx T1).kept hx;clear hx c0 c1 c2 c3 c4 c5 c6 c7 c8;cases hz:aE A B C D
  ·rw[hz]at HO;go_wp2_with fail;go_ret;exact⟨by rw[yx HO];rfl,yx B2⟩
  ·rw[hz]at HO;by_cases u1:1≤coast
   ·have HU:Hid (bE 1 lim coast=decide (coast≤lim)):=yz (by unfold bE;rw[decide_eq_true u1];rfl);go_wp2_with fail;go_ret;exact⟨by rw[yx HO,yx HU];rfl,yx B2⟩
   ·have HU:Hid (bE 1 lim coast=false):=yz (lA u1);go_wp2_with fail;go_ret;exact⟨by rw[yx HO,yx HU];rfl,yx B2⟩
 ·have HO:Hid (aZ ⟨L,lim,mode,A,B,C,D,coast,fr⟩=false):=yz (by rw[yx HH,An m0 m1 m2]);go_wp2_with fail;go_ret;exact⟨by rw[yx HO];rfl,yx B1⟩
theorem ue(a:Option Addr)(n c:Nat)(lim mode A B C D coast fr:Int)(w:World)(hn:n≤1048576):
  Calls Tryz.prog 5 #[.agg #[.slice a n c,J Z lim,J Z mode,J Z A,J Z B,J Z C,J Z D,J Z coast,J Z fr],J Z 1048576] w fun e w'=>e=.returned (J Z (1048576-(n:Int)))∧Below w.heap.size w w':=by
 have h0:¬(1048576:Int)-(n:Int)<0:=by omega
 go_enter Tryz.func5,Tryz.ntmps5;go_wp2_with fail;refine(zp a n c _ hn).mono ?_;rintro e w1 ⟨rfl,hw⟩;rw[hw];clear hw w1;go_wp2_with fail;go_ret;exact⟨rfl,ak _ _⟩
theorem uf(a:Option Addr)(n c:Nat)(lim mode A B C D coast fr:Int)(w:World)(hn:1048576<n)(hm:n≤9223372036854775807):
  Calls Tryz.prog 5 #[.agg #[.slice a n c,J Z lim,J Z mode,J Z A,J Z B,J Z C,J Z D,J Z coast,J Z fr],J Z 1048576] w fun e w'=>e=.returned (J Z (-1))∧Below w.heap.size w w':=by
 go_enter Tryz.func5,Tryz.ntmps5;go_wp2_with fail;refine(zq a n c _ hn hm).mono ?_;rintro e w1 ⟨rfl,hw⟩;rw[hw];clear hw w1;go_wp2_with fail;go_ret;exact⟨rfl,ak _ _⟩
theorem zv(p q r s:Int)(w:World):
  Calls Tryz.prog 31 #[.agg #[J Z p,J Z q,J Z r,J Z s]] w fun e w'=>e=.returned (.agg #[J Z p,J Z q,J Z r,J Z s])∧Below w.heap.size w w':=by
 go_enter Tryz.func31,Tryz.ntmps31;go_wp2;exact bodyPost_ret (v:=.agg #[J Z p,J Z q,J Z r,J Z s]) (by simp[results,Tryz.results31,go_sem]) rfl ⟨rfl,bq _ _ _ _⟩
theorem vR(p q r s:Int)(w:World):
  Calls Tryz.prog 38 #[.agg #[J Z p,J Z q,J Z r,J Z s],.agg #[J Z p,J Z q,J Z r,J Z s]] w fun e w'=>e=.returned (.bool true)∧Below w.heap.size w w':=by
 go_enter Tryz.func38,Tryz.ntmps38;go_wp2;go_ret;exact⟨rfl,aF _ _ _⟩
theorem kZ(L:List St)(n:Nat)(lim mode A B C D coast fr:Int)(a a':Option Addr)(c c':Nat)(w:World)(hn:n≤1048576)(hS:aH w a L n)(hS':aH w a' L n):
  Calls Tryz.prog 12 #[.agg #[.slice a n c,J Z lim,J Z mode,J Z A,J Z B,J Z C,J Z D,J Z coast,J Z fr],.agg #[.slice a' n c',J Z lim,J Z mode,J Z A,J Z B,J Z C,J Z D,J Z coast,J Z fr]] w fun e w'=>e=.returned (.bool true)∧Below w.heap.size w w':=by
 have B1:=yz (aF w (.cells #[.slice a n c,J Z lim,J Z mode,J Z A,J Z B,J Z C,J Z D,J Z coast,J Z fr] 37) (.cells #[.slice a' n c',J Z lim,J Z mode,J Z A,J Z B,J Z C,J Z D,J Z coast,J Z fr] 37));have O1:Hid (dk ((w.alloc (.cells #[.slice a n c,J Z lim,J Z mode,J Z A,J Z B,J Z C,J Z D,J Z coast,J Z fr] 37)).alloc (.cells #[.slice a' n c',J Z lim,J Z mode,J Z A,J Z B,J Z C,J Z D,J Z coast,J Z fr] 37)) w.heap.size (.slice a n c) lim mode A B C D coast fr):=yz ((bL w _ _ _ _ _ _ _ _ _ _).kept (ak _ _));have O2:Hid (dk ((w.alloc (.cells #[.slice a n c,J Z lim,J Z mode,J Z A,J Z B,J Z C,J Z D,J Z coast,J Z fr] 37)).alloc (.cells #[.slice a' n c',J Z lim,J Z mode,J Z A,J Z B,J Z C,J Z D,J Z coast,J Z fr] 37)) (w.heap.size+1) (.slice a' n c') lim mode A B C D coast fr):=yz (by simpa using bL (w.alloc (.cells #[.slice a n c,J Z lim,J Z mode,J Z A,J Z B,J Z C,J Z D,J Z coast,J Z fr] 37)) (.slice a' n c') lim mode A B C D coast fr 37);have cE:=yz (vQ L n a a' c c' _ hn (hS.kept (yx B1)) (hS'.kept (yx B1)));clear hS hS';go_enter Tryz.func12,Tryz.ntmps12;go_wp2_with fail;refine(yx cE).mono ?_;rintro e w1 ⟨rfl,hx⟩;have P1:=an O1 hx;have P2:=an O2 hx;obtain⟨p0,p1,p2,p3,p4,p5,p6,p7,p8⟩:=yx P1;obtain⟨q0,q1,q2,q3,q4,q5,q6,q7,q8⟩:=yx P2;have B2:=aA B1 hx;clear hx B1 O1 O2 cE;go_wp2_with fail;clear p0 p1 p2 p3 p4 p5 p6 p7 p8 q0 q1 q2 q3 q4 q5 q6 q7 q8;refine(vR A B C D _).mono ?_;rintro e w2 ⟨rfl,hx⟩;obtain⟨p0,p1,p2,p3,p4,p5,p6,p7,p8⟩:=(yx P1).kept hx;obtain⟨q0,q1,q2,q3,q4,q5,q6,q7,q8⟩:=(yx P2).kept hx;have B3:=aA B2 hx;clear hx B2 P1 P2;go_wp2_with fail;go_ret;exact⟨rfl,yx B3⟩
end
section
open Go.Value renaming int → J
open Go.IntKind renaming i64 → Y
open Go.RowKit Go.Sort
theorem lj(n lo hi:Int)(w:World):
  Calls Tryz.prog 57 #[J Y n,J Y lo,J Y hi] w fun e w'=>e=.returned (.bool (bE lo hi n))∧w'=w:=bp n lo hi w
theorem yk(n:Int)(w:World):
  Calls Tryz.prog 58 #[J Y n] w fun e w'=>e=.returned (.bool (bE 0 1000000 n))∧w'=w:=by
 go_enter Tryz.func58,Tryz.ntmps58;go_wp2_with fail;refine(lj n 0 1000000 _).mono ?_;rintro e w1 ⟨rfl,hw⟩;rw[hw];go_wp2_with fail;go_ret;exact⟨rfl,rfl⟩
theorem fR(L:List St)(lim mode A B C D coast fr:Int)(a:Option Addr)(c:Nat)(w:World)(hn:L.length≤1048576)(hS:aH w a L L.length):
  Calls Tryz.prog 26 #[.agg #[.slice a L.length c,J Y lim,J Y mode,J Y A,J Y B,J Y C,J Y D,J Y coast,J Y fr]] w fun e w'=>e=.returned (.bool (aZ ⟨L,lim,mode,A,B,C,D,coast,fr⟩))∧Below w.heap.size w w':=by
 have B0:=ak w (.cells #[.slice a L.length c,J Y lim,J Y mode,J Y A,J Y B,J Y C,J Y D,J Y coast,J Y fr] 37);have T0:=bL w (.slice a L.length c) lim mode A B C D coast fr 37;have cS:=yz (yZ L a c _ hn (hS.kept B0));have HB0:=yz B0;have HT0:=yz T0;clear B0 T0 hS hn;go_enter Tryz.func26,Tryz.ntmps26;go_wp2_with fail;refine(yx cS).mono ?_;rintro e w1 ⟨rfl,hx⟩;have T1:=an HT0 hx;have B1:=aA HB0 hx;clear hx cS HT0 HB0;obtain⟨c0,c1,c2,c3,c4,c5,c6,c7,c8⟩:=yx T1;have hlt:=(yx T1).lt;cases hk:bk L
 ·have HO:=yz (vw (t:=⟨L,lim,mode,A,B,C,D,coast,fr⟩) hk);go_wp2_with fail;go_ret;exact⟨by rw[yx HO];rfl,yx B1⟩
 go_wp2_with fail;refine(lj lim 1 5 _).mono ?_;rintro e w2 ⟨rfl,hw⟩;rw[hw];clear hw w2;cases hl:bE 1 5 lim
 ·have HO:=yz (pi (t:=⟨L,lim,mode,A,B,C,D,coast,fr⟩) hl);go_wp2_with fail;go_ret;exact⟨by rw[yx HO];rfl,yx B1⟩
 go_wp2_with fail;refine(yk fr _).mono ?_;rintro e w2 ⟨rfl,hw⟩;rw[hw];clear hw w2;cases hf:bE 0 1000000 fr
 ·have HO:=yz (pj (t:=⟨L,lim,mode,A,B,C,D,coast,fr⟩) hf);go_wp2_with fail;go_ret;exact⟨by rw[yx HO];rfl,yx B1⟩
 have HH:=yz (ti (t:=⟨L,lim,mode,A,B,C,D,coast,fr⟩) hk hl hf);clear hk hl hf;have Z:=((yx B1).alloc (yx B1).size (.cells #[J Y 0,J Y 0,J Y 0,J Y 0] 35))
 have T2:=yz ((yx T1).kept (ak w1 (.cells #[J Y 0,J Y 0,J Y 0,J Y 0] 35)));by_cases m0:mode=0
 ·have HO:Hid (aZ ⟨L,lim,mode,A,B,C,D,coast,fr⟩=(eqT A B C D 0 0 0 0&&decide (coast=0))):=yz (by rw[yx HH,Fm m0]);have hq:=fun W=>fO A B C D 0 0 0 0 W;cases hz:eqT A B C D 0 0 0 0
  ·rw[hz]at HO hq;go_wp2_with fail;go_ret;exact⟨by rw[yx HO];rfl,Z⟩
  ·rw[hz]at HO hq;go_wp2_with fail;go_ret;exact⟨by rw[yx HO];rfl,Z⟩
 by_cases m1:mode=1
 ·have HO:Hid (aZ ⟨L,lim,mode,A,B,C,D,coast,fr⟩=(aE A B C D&&decide (coast=0))):=yz (by rw[yx HH,Al m1]);subst m1;go_wp2_with fail;refine(cp A B C D _).mono ?_;rintro e w2 ⟨rfl,hx⟩;have B2:=yz (aj Z hx);obtain⟨d0,d1,d2,d3,d4,d5,d6,d7,d8⟩:=(yx T2).kept hx;clear hx c0 c1 c2 c3 c4 c5 c6 c7 c8 Z;cases hz:aE A B C D
  ·rw[hz]at HO;go_wp2_with fail;go_ret;exact⟨by rw[yx HO];rfl,yx B2⟩
  ·rw[hz]at HO;go_wp2_with fail;go_ret;exact⟨by rw[yx HO];rfl,yx B2⟩
 by_cases m2:mode=2
 ·have HO:Hid (aZ ⟨L,lim,mode,A,B,C,D,coast,fr⟩=(aE A B C D&&bE 1 lim coast)):=yz (by rw[yx HH,Am m2]);subst m2;go_wp2_with fail;refine(cp A B C D _).mono ?_;rintro e w2 ⟨rfl,hx⟩;have B2:=yz (aj Z hx);obtain⟨d0,d1,d2,d3,d4,d5,d6,d7,d8⟩:=(yx T2).kept hx;clear hx c0 c1 c2 c3 c4 c5 c6 c7 c8 Z;cases hz:aE A B C D
  ·rw[hz]at HO;go_wp2_with fail;go_ret;exact⟨by rw[yx HO];rfl,yx B2⟩
  ·rw[hz]at HO;go_wp2_with fail;refine(lj coast 1 lim _).mono ?_;rintro e w3 ⟨rfl,hw⟩;rw[hw];clear hw w3;go_wp2_with fail;go_ret;exact⟨by rw[yx HO];rfl,yx B2⟩
 ·have HO:Hid (aZ ⟨L,lim,mode,A,B,C,D,coast,fr⟩=false):=yz (by rw[yx HH,An m0 m1 m2]);go_wp2_with fail;go_ret;exact⟨by rw[yx HO];rfl,Z⟩
end
end Go.Proofs.YteoonaanoenjiaaGreatDoor
