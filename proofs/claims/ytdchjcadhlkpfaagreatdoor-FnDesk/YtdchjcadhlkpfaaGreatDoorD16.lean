/- Several texts in one: LkM. -/
import Derived.Test.YtdchjcadhlkpfaaGreatDoorD14
import Derived.Test.YtdchjcadhlkpfaaGreatDoorD15
namespace Go.Proofs.YtdchjcadhlkpfaaGreatDoor
set_option linter.unusedVariables false
set_option linter.unusedSimpArgs false
set_option maxRecDepth 100000
set_option maxHeartbeats 8000000
section
open Go.RowKit Go.Sort
variable {a1 a2 a3 b1 b2 b3 x y z:Int} {ids ids':List Int}
theorem oX{L:List St}{S:List D3}(s:Sg){n:Nat}(h:∀i,i<n→ids.getD i 0=ids'.getD i 0):jv L S ids s n=jv L S ids' s n:=by
 unfold jv;apply dw;intro i hi;have e1:=h i hi;have e2:bW L S ids i=bW L S ids' i:=by unfold bW;rw[e1]
 rw[e1,e2];congr 2
 apply dw;intro j hj;have e3:=h j (by omega);have e4:bW L S ids j=bW L S ids' j:=by unfold bW;rw[e3]
 rw[e3,e4]
theorem uV{L:List St}{S:List D3}{n:Nat}(h:∀i,i<n→ids.getD i 0=ids'.getD i 0):ia L S ids n=ia L S ids' n:=by
 unfold ia;apply dw;intro i hi;have e1:=h i hi;have e2:bW L S ids i=bW L S ids' i:=by unfold bW;rw[e1]
 rw[e1,e2,oX _ (fun j hj=>h j (by omega))]
theorem As(ids:List Int)(a:Int){i:Nat}(h:i<ids.length):(ids ++ [a]).getD i 0=ids.getD i 0:=by rw[List.getD_eq_getElem?_getD,List.getD_eq_getElem?_getD,List.getElem?_append_left h]
theorem Aq(ids:List Int)(a:Int):(ids ++ [a]).getD ids.length 0=a:=by rw[List.getD_eq_getElem?_getD,List.getElem?_append_right (Nat.le_refl _),Nat.sub_self];rfl
theorem DV(h:aU x y z=true):iN (x,y,z)=false:=by
 have:=(bz.1 (bI h).1).2;unfold iN;exact decide_eq_false this
theorem Fi{L:List St}(h:bc L=true){a:Int}(ha:a∈L.map (·.1)):iN (atV L L.length a)=false:=by
 obtain⟨s,hs,rfl⟩:=List.mem_map.1 ha;obtain⟨i,hi,rfl⟩:=List.getElem_of_mem hs;have e:L[i]=stA L i:=by unfold stA;rw[List.getD_eq_getElem?_getD,List.getElem?_eq_getElem hi];rfl
 rw[e,uk h hi];exact DV (fM ((cg h).2 i hi))
theorem re{L:List St}{S:List D3}{a:Int}(hk:bc L=true)(h:ia L S ids ids.length=true)(h2:a=0∨(a∈L.map (·.1)∧dB L S ids a=true)):ia L S (ids ++ [a]) (ids ++ [a]).length=true:=by
 have e0:(ids ++ [a]).length=ids.length+1:=by simp
 rw[e0];unfold ia;rw[em]
 have e1:((List.range ids.length).all fun i=>decide ((ids ++ [a]).getD i 0=0) || (!iN (atV L L.length ((ids ++ [a]).getD i 0))&&jv L S (ids ++ [a]) (bW L S (ids ++ [a]) i) i))=true:=by
  have:=uV (L:=L) (S:=S) (ids:=ids ++ [a]) (ids':=ids) (n:=ids.length) (fun i hi=>As ids a hi);unfold ia at this h;rw[this];exact h
 rw[e1,Bool.true_and,Aq];rcases h2 with rfl | ⟨hm,hf⟩
 ·rfl
 ·have e2:bW L S (ids ++ [a]) ids.length=(vA S ids.length,(a,atV L L.length a)):=by unfold bW;rw[Aq]
  rw[e2,Fi hk hm,oX _ (fun i hi=>As ids a hi)];unfold dB at hf;rw[hf];simp
theorem oG{L:List St}{S:List D3}(hk:bc L=true):∀(r:Nat) (ids l:List Int),ia L S ids ids.length=true→l∈eN (dB L S) (L.map (·.1)) r ids→ia L S l l.length=true
 | 0,ids,l,h,hl=>by
  simp only[eN,List.mem_singleton]at hl;subst hl;exact h
 | r+1,ids,l,h,hl=>by
  simp only[eN,List.mem_append,List.mem_flatMap]at hl;rcases hl with ⟨a,ha,hl⟩ | hl
  ·have:=List.mem_filter.1 ha;exact oG hk r _ l (re hk h (.inr this)) hl
  ·exact oG hk r _ l (re hk h (.inl rfl)) hl
theorem lk:∀(X:List (List Int)) (g:List Int×Nat),(g.2=0→aY g.1<3)→(X.foldl dE g).2≠0→(X.foldl dE g).1∈X∨(g.2≠0∧(X.foldl dE g).1=g.1)
 | [],g,_,h=>.inr ⟨h,rfl⟩
 | x :: X,g,hg,h=>by
  rw[List.foldl_cons]at h ⊢;by_cases c1:aY x<3∨aY x<aY g.1
  ·have e:dE g x=g:=by unfold dE;rw[if_pos c1]
   rw[e]at h ⊢;rcases lk X g hg h with h1 | h1
   ·exact .inl (List.mem_cons_of_mem _ h1)
   ·exact .inr h1
  ·by_cases c2:aY g.1<aY x
   ·have e:dE g x=(x,1):=by unfold dE;rw[if_neg c1,if_pos c2]
    rw[e]at h ⊢;rcases lk X (x,1) (fun h=>by cases h) h with h1 | ⟨_,h1⟩
    ·exact .inl (List.mem_cons_of_mem _ h1)
    ·rw[h1];exact .inl (List.mem_cons_self ..)
   ·have e:dE g x=(g.1,g.2+1):=by unfold dE;rw[if_neg c1,if_neg c2]
    have hne:g.2≠0:=fun e0=>by have:=hg e0;omega
    rw[e]at h ⊢;rcases lk X (g.1,g.2+1) (fun h=>by cases h) h with h1 | ⟨_,h1⟩
    ·exact .inl (List.mem_cons_of_mem _ h1)
    ·exact .inr ⟨hne,h1⟩
theorem pf{L:List St}{S:List D3}(hk:bc L=true)(hp:ba S=true)(h0:bK L S=0):bL L S (cj L S)=true:=by
 have hg:=mh L S
 have h2:(dL L S).2=1:=by
  rw[hg.2.2]at h0;by_cases a:(dL L S).2=0
  ·rw[if_pos a]at h0;cases h0
  ·rw[if_neg a]at h0;by_cases b:1<(dL L S).2
   ·rw[if_pos b]at h0;cases h0
   ·omega
 rw[hg.1,if_pos h2]
 have hm:(dL L S).1∈eN (dB L S) (L.map (·.1)) S.length []:=by
  rcases lk _ ([],0) (fun _=>by decide) (show (dL L S).2≠0 by omega) with h | ⟨h,_⟩
  ·exact h
  ·exact absurd rfl h
 have hn:=oG hk S.length [] _ rfl hm;have hl:=lg _ _ _ _ _ hm;unfold bL;rw[hk,hp,←rd,hn,decide_eq_true (by simpa using hl)];rfl
theorem AT{L:List St}{S:List D3}(hk:bc L=true)(hp:ba S=true)(h0:bK L S=0):(if (az L S (cj L S) (cj L S).length).length<2 then ((0,0,0,0),10) else fF (az L S (cj L S) (cj L S).length) (aB 625))=jw L S (cj L S):=by
 have hn:=pf hk hp h0;have h12:=(cg hk).1;have h6:=(bS hp).1;have hl:=(ge hn).2.2.1;unfold jw;rw[if_neg (show ¬(400<L.length∨400<S.length∨400<(cj L S).length) by omega),if_pos hn]
theorem AK{v1 v2 v3 p1 p2 p3 q1 q2 q3:Int}(hv:¬(v1=0∧v2=0∧v3=0))(a1:v2*p3-v3*p2=0)(a2:v3*p1-v1*p3=0)(a3:v1*p2-v2*p1=0)(b1:v2*q3-v3*q2=0)(b2:v3*q1-v1*q3=0)(b3:v1*q2-v2*q1=0)
  (hp:0<dot v1 v2 v3 p1 p2 p3) (hq:0<dot v1 v2 v3 q1 q2 q3):(p2*q3-p3*q2=0∧p3*q1-p1*q3=0∧p1*q2-p2*q1=0)∧0<dot p1 p2 p3 q1 q2 q3:=by
 have hvv:=oS hv;obtain⟨V,hV⟩:∃V,dot v1 v2 v3 v1 v2 v3=V:=⟨_,rfl⟩
 obtain⟨P,hP⟩:∃P,dot v1 v2 v3 p1 p2 p3=P:=⟨_,rfl⟩
 obtain⟨Q,hQ⟩:∃Q,dot v1 v2 v3 q1 q2 q3=Q:=⟨_,rfl⟩
 have x1:V*p1=P*v1:=by rw[←hV,←hP];unfold dot;grind
 have x2:V*p2=P*v2:=by rw[←hV,←hP];unfold dot;grind
 have x3:V*p3=P*v3:=by rw[←hV,←hP];unfold dot;grind
 have y1:V*q1=Q*v1:=by rw[←hV,←hQ];unfold dot;grind
 have y2:V*q2=Q*v2:=by rw[←hV,←hQ];unfold dot;grind
 have y3:V*q3=Q*v3:=by rw[←hV,←hQ];unfold dot;grind
 rw[hV]at hvv;rw[hP]at hp;rw[hQ]at hq;have hVV:=Int.mul_pos hvv hvv
 have z:∀x:Int,V*V*x=0→x=0:=fun x h=>by
  rcases Int.mul_eq_zero.1 h with e | e
  ·omega
  ·exact e
 refine⟨⟨z _ (by grind),z _ (by grind),z _ (by grind)⟩,?_⟩
 have e:V*V*dot p1 p2 p3 q1 q2 q3=P*Q*V:=by
  rw[←hV]at *;unfold dot at *;grind
 have hpos:=Int.mul_pos (Int.mul_pos hp hq) hvv;rw[←e]at hpos;rcases Int.lt_or_le 0 (dot p1 p2 p3 q1 q2 q3) with h | h
 ·exact h
 ·have:=Int.mul_le_mul_of_nonneg_left h (Int.le_of_lt hVV);simp at this;omega
theorem ry(h:eb a1 a2 a3 b1 b2 b3=true):aA a1 a2 a3=true∧aA b1 b2 b3=true∧(a2*b3-a3*b2=0∧a3*b1-a1*b3=0∧a1*b2-a2*b1=0)∧0<dot a1 a2 a3 b1 b2 b3:=by
 unfold eb at h;simp only[Bool.and_eq_true,decide_eq_true_eq]at h;obtain⟨⟨⟨ra,rb⟩,hz⟩,hd⟩:=h;have a:=(bz.1 ra).1;have b:=(bz.1 rb).1;rw[dU (A:=1000000) (B:=1000000) (aW.2 a) (aW.2 b) (by omega)]at hd;rw[(eO a.2.1 a.2.2 b.2.1 b.2.2 (by omega)).1,(eO a.2.2 a.1 b.2.2 b.1 (by omega)).1,(eO a.1 a.2.1 b.1 b.2.1 (by omega)).1]at hz;unfold ij at hz;exact⟨ra,rb,of_decide_eq_true hz,hd⟩
theorem Fc(ra:aA a1 a2 a3=true)(rb:aA b1 b2 b3=true)(hc:a2*b3-a3*b2=0∧a3*b1-a1*b3=0∧a1*b2-a2*b1=0)(hd:0<dot a1 a2 a3 b1 b2 b3):eb a1 a2 a3 b1 b2 b3=true:=by
 have a:=(bz.1 ra).1;have b:=(bz.1 rb).1;unfold eb;rw[ra,rb,(eO a.2.1 a.2.2 b.2.1 b.2.2 (by omega)).1,(eO a.2.2 a.1 b.2.2 b.1 (by omega)).1,(eO a.1 a.2.1 b.1 b.2.1 (by omega)).1,dU (A:=1000000) (B:=1000000) (aW.2 a) (aW.2 b) (by omega),hc.1,hc.2.1,hc.2.2];simp[ij,hd]
theorem Ea(h:x*x+y*y+z*z=0):x=0∧y=0∧z=0:=by
 have h1:=sqn x;have h2:=sqn y;have h3:=sqn z;have e1:x*x=0:=by omega
 have e2:y*y=0:=by omega
 have e3:z*z=0:=by omega
 refine⟨?_,?_,?_⟩
 ·rcases Int.mul_eq_zero.1 e1 with e | e<;>exact e
 ·rcases Int.mul_eq_zero.1 e2 with e | e<;>exact e
 ·rcases Int.mul_eq_zero.1 e3 with e | e<;>exact e
theorem Er{a b c d s1 s2 s3 t1 t2 t3:Int}(ht:aD a b c d=true)(hs:aA s1 s2 s3=true)(hu:aA t1 t2 t3=true)
  (h:(apY a b c d s1 s2 s3*apZ a b c d t1 t2 t3-apZ a b c d s1 s2 s3*apY a b c d t1 t2 t3=0∧apZ a b c d s1 s2 s3*apX a b c d t1 t2 t3-apX a b c d s1 s2 s3*apZ a b c d t1 t2 t3=0∧apX a b c d s1 s2 s3*apY a b c d t1 t2 t3-apY a b c d s1 s2 s3*apX a b c d t1 t2 t3=0)∧0<dot (apX a b c d s1 s2 s3) (apY a b c d s1 s2 s3) (apZ a b c d s1 s2 s3) (apX a b c d t1 t2 t3) (apY a b c d t1 t2 t3) (apZ a b c d t1 t2 t3)):eb s1 s2 s3 t1 t2 t3=true:=by
 have hp:=zg (lC ht);obtain⟨⟨h1,h2,h3⟩,h4⟩:=h;have d1:=ql a b c d s1 s2 s3 t1 t2 t3;have d2:=ql a b c d s1 s2 s3 s1 s2 s3;have d3:=ql a b c d t1 t2 t3 t1 t2 t3;generalize apX a b c d s1 s2 s3=p1 at *;generalize apY a b c d s1 s2 s3=p2 at *;generalize apZ a b c d s1 s2 s3=p3 at *;generalize apX a b c d t1 t2 t3=q1 at *;generalize apY a b c d t1 t2 t3=q2 at *;generalize apZ a b c d t1 t2 t3=q3 at *;generalize nT a b c d=N at *;have hNN:=Int.mul_pos hp hp;have hN4:=Int.mul_pos hNN hNN
 have lag:dot p1 p2 p3 p1 p2 p3*dot q1 q2 q3 q1 q2 q3=dot p1 p2 p3 q1 q2 q3*dot p1 p2 p3 q1 q2 q3:=by
  have e:dot p1 p2 p3 p1 p2 p3*dot q1 q2 q3 q1 q2 q3-dot p1 p2 p3 q1 q2 q3*dot p1 p2 p3 q1 q2 q3=(p2*q3-p3*q2)*(p2*q3-p3*q2)+(p3*q1-p1*q3)*(p3*q1-p1*q3)+(p1*q2-p2*q1)*(p1*q2-p2*q1):=by unfold dot;grind
  rw[h1,h2,h3]at e;omega
 rw[d1,d2,d3]at lag
 have e0:N*N*(N*N)*(dot s1 s2 s3 s1 s2 s3*dot t1 t2 t3 t1 t2 t3-dot s1 s2 s3 t1 t2 t3*dot s1 s2 s3 t1 t2 t3)=0:=by
  generalize dot s1 s2 s3 s1 s2 s3=x at *;generalize dot t1 t2 t3 t1 t2 t3=y at *;generalize dot s1 s2 s3 t1 t2 t3=z at *;grind
 have e1:dot s1 s2 s3 s1 s2 s3*dot t1 t2 t3 t1 t2 t3-dot s1 s2 s3 t1 t2 t3*dot s1 s2 s3 t1 t2 t3=0:=by
  rcases Int.mul_eq_zero.1 e0 with e | e
  ·omega
  ·exact e
 have e2:(s2*t3-s3*t2)*(s2*t3-s3*t2)+(s3*t1-s1*t3)*(s3*t1-s1*t3)+(s1*t2-s2*t1)*(s1*t2-s2*t1)=0:=by
  rw[←e1];unfold dot;grind
 refine Fc hs hu (Ea e2) ?_;rw[d1]at h4;rcases Int.lt_or_le 0 (dot s1 s2 s3 t1 t2 t3) with h | h
 ·exact h
 ·have:=Int.mul_le_mul_of_nonneg_left h (Int.le_of_lt hNN);simp at this;omega
theorem BR{L:List St}(h:bc L=true){i j:Nat}(hi:i<L.length)(hj:j<i):pp (stA L i) (stA L j)=false:=by
 have:=(cg h).2 i hi;unfold eV at this;simp only[Bool.and_eq_true]at this;have h2:fq L (stA L i) i=false:=by simpa using this.2
 unfold fq at h2;rw[List.any_eq_false]at h2;have:=h2 j (List.mem_range.2 hj);simpa using this
theorem EG{L:List St}{a b c d:Int}{v:D3}(hk:bc L=true)(ht:aD a b c d=true){i j:Nat}(hi:i<L.length)(hj:j<i)(h1:bY v (apD a b c d (stA L i).2)=true):bY v (apD a b c d (stA L j).2)=false:=by
 cases h2:bY v (apD a b c d (stA L j).2)
 ·rfl
 ·exfalso;unfold bY apD at h1 h2;obtain⟨rv,_,⟨b1,b2,b3⟩,b4⟩:=ry h1;obtain⟨_,_,⟨c1,c2,c3⟩,c4⟩:=ry h2;have:=AK (bz.1 rv).2 b1 b2 b3 c1 c2 c3 b4 c4;have e:=Er ht (bI (fM ((cg hk).2 i hi))).1 (bI (fM ((cg hk).2 j (by omega)))).1 this;have:=BR hk hi hj;unfold pp at this;rw[this]at e;cases e
theorem tw{L:List St}{a b c d:Int}{v:D3}:∀k,(∀j,j<k→bY v (apD a b c d (stA L j).2)=false)→fg L a b c d v k=0
 | 0,_=>rfl
 | k+1,h=>by
  unfold fg;rw[tw k (fun j hj=>h j (by omega)),h k (by omega)];rfl
theorem FQ{L:List St}(h:bc L=true){i:Nat}(hi:i<L.length):(stA L i).1≠0:=by
 have:=(cg h).2 i hi;unfold eV idB at this;simp only[Bool.and_eq_true,decide_eq_true_eq]at this;omega
theorem Aa{L:List St}{a b c d:Int}{v:D3}(hk:bc L=true)(ht:aD a b c d=true):∀k,k≤L.length→fg L a b c d v k=if fi L a b c d v k≠0 then 1 else 0
 | 0,_=>rfl
 | k+1,h=>by
  unfold fg fi;cases hs:bY v (apD a b c d (stA L k).2)
  ·rw[Aa hk ht k (by omega)];simp
  ·rw[tw k (fun j hj=>EG hk ht (show k<L.length by omega) hj hs)];simp[FQ hk (show k<L.length by omega)]
theorem CR{L:List St}{a b c d:Int}{S:List D3}(hk:bc L=true)(ht:aD a b c d=true)(hp:ba S=true):fS L a b c d S L.length S.length=aY (bQ L a b c d S):=by
 rw[tH hk ht hp]
 have:∀i,i≤S.length→fS L a b c d S L.length i=aY ((S.map (fun v=>fi L a b c d v L.length)).take i):=by
  intro i
  induction i with
  | zero=>intro _;rfl
  | succ i ih=>
   intro hi;have hi':i<(S.map (fun v=>fi L a b c d v L.length)).length:=by rw[List.length_map];omega
   rw[sV _ hi',←ih (by omega)];show fS L a b c d S L.length i+fg L a b c d (vA S i) L.length=_;rw[Aa hk ht _ (Nat.le_refl _)]
   have e:(S.map (fun v=>fi L a b c d v L.length)).getD i 0=fi L a b c d (vA S i) L.length:=by
    unfold vA;rw[List.getD_eq_getElem?_getD,List.getElem?_map,List.getElem?_eq_getElem (show i<S.length by omega),List.getD_eq_getElem?_getD,List.getElem?_eq_getElem (show i<S.length by omega)];rfl
   rw[e]
 have h:=this S.length (Nat.le_refl _);rw[h,List.take_of_length_le (by rw[List.length_map];exact Nat.le_refl _)]
end
end Go.Proofs.YtdchjcadhlkpfaaGreatDoor
