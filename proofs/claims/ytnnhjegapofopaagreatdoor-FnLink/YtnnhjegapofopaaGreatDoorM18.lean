import Derived.Test.YtnnhjegapofopaaGreatDoorM17
namespace Go.Proofs.YtnnhjegapofopaaGreatDoor
set_option linter.all false
set_option maxRecDepth 100000
set_option maxHeartbeats 8000000
open Go.RowKit Go.Sort Go.Proofs.Tryz
open Go.Value renaming int -> J,slice -> σ,string -> τ,agg -> κ,pointer -> π
open Go.Obj renaming cells -> ξ
open Go.Ending renaming returned -> ρ
open Go renaming World -> ω,Value -> μ,Calls -> χ,Addr -> η,bodyPost_ret -> ϊ
open Go.RowKit renaming Below -> δ
open Option renaming none -> ν,some -> ς
open Bool renaming true -> θ,false -> φ,and_eq_true -> ύ
open Nat renaming lt_of_lt_of_le -> ϋ,lt_succ_self -> ό
open List renaming getD_eq_getElem?_getD -> ώ,getElem?_eq_getElem -> Ϗ
open Go.IntKind renaming i64 -> Z
section
variable {a a1 a2 a3 b b1 b2 b3 c d x z:Int} {ids ids':List Int}
theorem sF{L:List St}{S:List D3}(s:Sg){n:Nat}(h:∀i,i<n->ids.getD i 0=ids'.getD i 0):lD L S ids s n=lD L S ids' s n:=by
 unfold lD;apply eh;intro i e;have a:=h i e;have c:dz L S ids i=dz L S ids' i:=by unfold dz;rw[a]
 rw[a,c];congr 2
 apply eh;intro j f;have b:=h j (by omega);have d:dz L S ids j=dz L S ids' j:=by unfold dz;rw[b]
 rw[b,d]
theorem Ao{L:List St}{S:List D3}{n:Nat}(h:∀i,i<n->ids.getD i 0=ids'.getD i 0):jz L S ids n=jz L S ids' n:=by
 unfold jz;apply eh;intro i c;have a:=h i c;have b:dz L S ids i=dz L S ids' i:=by unfold dz;rw[a]
 rw[a,b,sF _ (fun j d=>h j (by omega))]
theorem Gf(ids:List Int)(a:Int){i:Nat}(h:i<ids.length):(ids ++ [a]).getD i 0=ids.getD i 0:=by rw[ώ,ώ,List.getElem?_append_left h]
theorem Ge(b:List Int)(a:Int):(b ++ [a]).getD b.length 0=a:=by rw[ώ,List.getElem?_append_right (Nat.le_refl _),Nat.sub_self];rfl
theorem Ky{y:Int}(h:aX x y z=θ):kF (x,y,z)=φ:=by
 have:=(bZ.1 (eA h).1).2;unfold kF;exact decide_eq_false this
theorem LU{L:List St}(h:bE L=θ){a:Int}(c:a∈L.map (·.1)):kF (atV L L.length a)=φ:=by
 obtain⟨s,d,rfl⟩:=List.mem_map.1 c;obtain⟨i,b,rfl⟩:=List.getElem_of_mem d;have e:L[i]=stA L i:=by unfold stA;rw[ώ,Ϗ b];rfl
 rw[e,DM h b];exact Ky (kw ((ff h).2 i b))
theorem vS{L:List St}{S:List D3}(j:bE L=θ)(h:jz L S ids ids.length=θ)(g:a=0\/(a∈L.map (·.1)/\ey L S ids a=θ)):jz L S (ids ++ [a]) (ids ++ [a]).length=θ:=by
 have d:(ids ++ [a]).length=ids.length+1:=by simp
 rw[d];unfold jz;rw[ft]
 have e:((List.range ids.length).all fun i=>decide ((ids ++ [a]).getD i 0=0) || (!kF (atV L L.length ((ids ++ [a]).getD i 0))&&lD L S (ids ++ [a]) (dz L S (ids ++ [a]) i) i))=θ:=by
  have:=Ao (L:=L) (S:=S) (ids:=ids ++ [a]) (ids':=ids) (n:=ids.length) (fun i b=>Gf ids a b);unfold jz at this h;rw[this];exact h
 rw[e,Bool.true_and,Ge];rcases g with rfl | ⟨k,c⟩
 ·rfl
 ·have f:dz L S (ids ++ [a]) ids.length=(vA S ids.length,(a,atV L L.length a)):=by unfold dz;rw[Ge]
  rw[f,LU j k,sF _ (fun i b=>Gf ids a b)];unfold ey at c;rw[c];simp
theorem rP{L:List St}{S:List D3}(d:bE L=θ):∀(r:Nat) (b l:List Int),jz L S b b.length=θ->l∈gJ (ey L S) (L.map (·.1)) r b->jz L S l l.length=θ
 | 0,b,l,h,c=>by
  simp only[gJ,List.mem_singleton]at c;subst c;exact h
 | r+1,b,l,h,c=>by
  simp only[gJ,List.mem_append,List.mem_flatMap]at c;rcases c with ⟨a,e,c⟩ | c
  ·have:=List.mem_filter.1 e;exact rP d r _ l (vS d h (.inr this)) c
  ·exact rP d r _ l (vS d h (.inl rfl)) c
theorem oh:∀(X:List (List Int)) (g:List Int×Nat),(g.2=0->bd g.1<3)->(X.foldl et g).2≠0->(X.foldl et g).1∈X\/(g.2≠0/\(X.foldl et g).1=g.1)
 | [],g,_,h=>.inr ⟨h,rfl⟩
 | x :: X,g,hg,h=>by
  rw[List.foldl_cons]at h ⊢;by_cases b:bd x<3\/bd x<bd g.1
  ·have e:et g x=g:=by unfold et;rw[if_pos b]
   rw[e]at h ⊢;rcases oh X g hg h with a | a
   ·exact .inl (List.mem_cons_of_mem _ a)
   ·exact .inr a
  ·by_cases d:bd g.1<bd x
   ·have e:et g x=(x,1):=by unfold et;rw[if_neg b,if_pos d]
    rw[e]at h ⊢;rcases oh X (x,1) (fun h=>by cases h) h with a | ⟨_,a⟩
    ·exact .inl (List.mem_cons_of_mem _ a)
    ·rw[a];exact .inl (List.mem_cons_self ..)
   ·have e:et g x=(g.1,g.2+1):=by unfold et;rw[if_neg b,if_neg d]
    have c:g.2≠0:=fun f=>by have:=hg f;omega
    rw[e]at h ⊢;rcases oh X (g.1,g.2+1) (fun h=>by cases h) h with a | ⟨_,a⟩
    ·exact .inl (List.mem_cons_of_mem _ a)
    ·exact .inr ⟨c,a⟩
theorem sJ{L:List St}{S:List D3}(e:bE L=θ)(k:aQ S=θ)(c:dn L S=0):cJ L S (dL L S)=θ:=by
 have d:=pk L S
 have g:(eD L S).2=1:=by
  rw[d.2.2]at c;by_cases a:(eD L S).2=0
  ·rw[if_pos a]at c;cases c
  ·rw[if_neg a]at c;by_cases b:1<(eD L S).2
   ·rw[if_pos b]at c;cases c
   ·omega
 rw[d.1,if_pos g]
 have f:(eD L S).1∈gJ (ey L S) (L.map (·.1)) S.length []:=by
  rcases oh _ ([],0) (fun _=>by decide) (show (eD L S).2≠0 by omega) with h | ⟨h,_⟩
  ·exact h
  ·exact absurd rfl h
 have j:=rP e S.length [] _ rfl f;have i:=nY _ _ _ _ _ f;unfold cJ;rw[e,k,<-vR,j,decide_eq_true (by simpa using i)];rfl
theorem GM{L:List St}{S:List D3}(a:bE L=θ)(c:aQ S=θ)(d:dn L S=0):(if (ay L S (dL L S) (dL L S).length).length<2 then ((0,0,0,0),10) else gL (ay L S (dL L S) (dL L S).length) (aE 625))=lE L S (dL L S):=by
 have b:=sJ a c d;have e:=(ff a).1;have f:=(bN c).1;have g:=(iw b).2.2.1;unfold lE;rw[if_neg (show ¬(400<L.length\/400<S.length\/400<(dL L S).length) by omega),if_pos b]
theorem GD{a b c d f g i j k:Int}(t:¬(a=0/\b=0/\c=0))(u:b*g-c*f=0)(v:c*d-a*g=0)(w:a*f-b*d=0)(y:b*k-c*j=0)(A:c*i-a*k=0)(B:a*j-b*i=0)
  (r:0<dot a b c d f g) (s:0<dot a b c i j k):(f*k-g*j=0/\g*i-d*k=0/\d*j-f*i=0)/\0<dot d f g i j k:=by
 have l:=wM t;obtain⟨V,m⟩:∃V,dot a b c a b c=V:=⟨_,rfl⟩
 obtain⟨P,o⟩:∃P,dot a b c d f g=P:=⟨_,rfl⟩
 obtain⟨Q,p⟩:∃Q,dot a b c i j k=Q:=⟨_,rfl⟩
 have C:V*d=P*a:=by rw[<-m,<-o];unfold dot;grind
 have D:V*f=P*b:=by rw[<-m,<-o];unfold dot;grind
 have E:V*g=P*c:=by rw[<-m,<-o];unfold dot;grind
 have F:V*i=Q*a:=by rw[<-m,<-p];unfold dot;grind
 have G:V*j=Q*b:=by rw[<-m,<-p];unfold dot;grind
 have H:V*k=Q*c:=by rw[<-m,<-p];unfold dot;grind
 rw[m]at l;rw[o]at r;rw[p]at s;have q:=Int.mul_pos l l
 have z:∀x:Int,V*V*x=0->x=0:=fun x h=>by
  rcases Int.mul_eq_zero.1 h with e | e
  ·omega
  ·exact e
 refine⟨⟨z _ (by grind),z _ (by grind),z _ (by grind)⟩,?_⟩
 have e:V*V*dot d f g i j k=P*Q*V:=by
  rw[<-m]at *;unfold dot at *;grind
 have n:=Int.mul_pos (Int.mul_pos r s) l;rw[<-e]at n;rcases Int.lt_or_le 0 (dot d f g i j k) with h | h
 ·exact h
 ·have:=Int.mul_le_mul_of_nonneg_left h (Int.le_of_lt q);simp at this;omega
theorem wD(h:fk a1 a2 a3 b1 b2 b3=θ):aD a1 a2 a3=θ/\aD b1 b2 b3=θ/\(a2*b3-a3*b2=0/\a3*b1-a1*b3=0/\a1*b2-a2*b1=0)/\0<dot a1 a2 a3 b1 b2 b3:=by
 unfold fk at h;simp only[ύ,decide_eq_true_eq]at h;obtain⟨⟨⟨e,f⟩,c⟩,d⟩:=h;have a:=(bZ.1 e).1;have b:=(bZ.1 f).1;rw[eR (A:=1000000) (B:=1000000) (bH.2 a) (bH.2 b) (by omega)]at d;rw[(fR a.2.1 a.2.2 b.2.1 b.2.2 (by omega)).1,(fR a.2.2 a.1 b.2.2 b.1 (by omega)).1,(fR a.1 a.2.1 b.1 b.2.1 (by omega)).1]at c;unfold jG at c;exact⟨e,f,of_decide_eq_true c,d⟩
theorem LQ(d:aD a1 a2 a3=θ)(e:aD b1 b2 b3=θ)(c:a2*b3-a3*b2=0/\a3*b1-a1*b3=0/\a1*b2-a2*b1=0)(f:0<dot a1 a2 a3 b1 b2 b3):fk a1 a2 a3 b1 b2 b3=θ:=by
 have a:=(bZ.1 d).1;have b:=(bZ.1 e).1;unfold fk;rw[d,e,(fR a.2.1 a.2.2 b.2.1 b.2.2 (by omega)).1,(fR a.2.2 a.1 b.2.2 b.1 (by omega)).1,(fR a.1 a.2.1 b.1 b.2.1 (by omega)).1,eR (A:=1000000) (B:=1000000) (bH.2 a) (bH.2 b) (by omega),c.1,c.2.1,c.2.2];simp[jG,f]
theorem KJ{y:Int}(h:x*x+y*y+z*z=0):x=0/\y=0/\z=0:=by
 have d:=sqn x;have f:=sqn y;have g:=sqn z;have a:x*x=0:=by omega
 have b:y*y=0:=by omega
 have c:z*z=0:=by omega
 refine⟨?_,?_,?_⟩
 ·rcases Int.mul_eq_zero.1 a with e | e<;>exact e
 ·rcases Int.mul_eq_zero.1 b with e | e<;>exact e
 ·rcases Int.mul_eq_zero.1 c with e | e<;>exact e
theorem Ll{f g i j k l:Int}(L:aG a b c d=θ)(K:aD f g i=θ)(M:aD j k l=θ)
  (h:(apY a b c d f g i*apZ a b c d j k l-apZ a b c d f g i*apY a b c d j k l=0/\apZ a b c d f g i*apX a b c d j k l-apX a b c d f g i*apZ a b c d j k l=0/\apX a b c d f g i*apY a b c d j k l-apY a b c d f g i*apX a b c d j k l=0)/\0<dot (apX a b c d f g i) (apY a b c d f g i) (apZ a b c d f g i) (apX a b c d j k l) (apY a b c d j k l) (apZ a b c d j k l)):fk f g i j k l=θ:=by
 have v:=JF (rZ L);obtain⟨⟨E,F,G⟩,H⟩:=h;have u:=zv a b c d f g i j k l;have w:=zv a b c d f g i f g i;have A:=zv a b c d j k l j k l;generalize apX a b c d f g i=m at *;generalize apY a b c d f g i=n at *;generalize apZ a b c d f g i=o at *;generalize apX a b c d j k l=p at *;generalize apY a b c d j k l=q at *;generalize apZ a b c d j k l=r at *;generalize nT a b c d=N at *;have s:=Int.mul_pos v v;have I:=Int.mul_pos s s
 have t:dot m n o m n o*dot p q r p q r=dot m n o p q r*dot m n o p q r:=by
  have e:dot m n o m n o*dot p q r p q r-dot m n o p q r*dot m n o p q r=(n*r-o*q)*(n*r-o*q)+(o*p-m*r)*(o*p-m*r)+(m*q-n*p)*(m*q-n*p):=by unfold dot;grind
  rw[E,F,G]at e;omega
 rw[u,w,A]at t
 have B:N*N*(N*N)*(dot f g i f g i*dot j k l j k l-dot f g i j k l*dot f g i j k l)=0:=by
  generalize dot f g i f g i=x at *;generalize dot j k l j k l=y at *;generalize dot f g i j k l=z at *;grind
 have C:dot f g i f g i*dot j k l j k l-dot f g i j k l*dot f g i j k l=0:=by
  rcases Int.mul_eq_zero.1 B with e | e
  ·omega
  ·exact e
 have D:(g*l-i*k)*(g*l-i*k)+(i*j-f*l)*(i*j-f*l)+(f*k-g*j)*(f*k-g*j)=0:=by
  rw[<-C];unfold dot;grind
 refine LQ K M (KJ D) ?_;rw[u]at H;rcases Int.lt_or_le 0 (dot f g i j k l) with h | h
 ·exact h
 ·have:=Int.mul_le_mul_of_nonneg_left h (Int.le_of_lt s);simp at this;omega
theorem Ig{L:List St}(h:bE L=θ){i j:Nat}(b:i<L.length)(c:j<i):sY (stA L i) (stA L j)=φ:=by
 have:=(ff h).2 i b;unfold gB at this;simp only[ύ]at this;have a:gy L (stA L i) i=φ:=by simpa using this.2
 unfold gy at a;rw[List.any_eq_false]at a;have:=a j (List.mem_range.2 c);simpa using this
theorem Lx{L:List St}{v:D3}(f:bE L=θ)(u:aG a b c d=θ){i j:Nat}(k:i<L.length)(t:j<i)(g:dl v (apD a b c d (stA L i).2)=θ):dl v (apD a b c d (stA L j).2)=φ:=by
 cases h:dl v (apD a b c d (stA L j).2)
 ·rfl
 ·exfalso;unfold dl apD at g h;obtain⟨w,_,⟨l,m,n⟩,o⟩:=wD g;obtain⟨_,_,⟨p,q,r⟩,s⟩:=wD h;have:=GD (bZ.1 w).2 l m n p q r o s;have e:=Ll u (eA (kw ((ff f).2 i k))).1 (eA (kw ((ff f).2 j (by omega)))).1 this;have:=Ig f k t;unfold sY at this;rw[this]at e;cases e
theorem yt{L:List St}{v:D3}:∀k,(∀j,j<k->dl v (apD a b c d (stA L j).2)=φ)->gj L a b c d v k=0
 | 0,_=>rfl
 | k+1,h=>by
  unfold gj;rw[yt k (fun j e=>h j (by omega)),h k (by omega)];rfl
theorem MM{L:List St}(h:bE L=θ){i:Nat}(a:i<L.length):(stA L i).1≠0:=by
 have:=(ff h).2 i a;unfold gB idB at this;simp only[ύ,decide_eq_true_eq]at this;omega
theorem FG{L:List St}{v:D3}(e:bE L=θ)(f:aG a b c d=θ):∀k,k<=L.length->gj L a b c d v k=if gn L a b c d v k≠0 then 1 else 0
 | 0,_=>rfl
 | k+1,h=>by
  unfold gj gn;cases i:dl v (apD a b c d (stA L k).2)
  ·rw[FG e f k (by omega)];simp
  ·rw[yt k (fun j g=>Lx e f (show k<L.length by omega) g i)];simp[MM e (show k<L.length by omega)]
theorem Jj{L:List St}{S:List D3}(g:bE L=θ)(j:aG a b c d=θ)(k:aQ S=θ):ic L a b c d S L.length S.length=bd (dp L a b c d S):=by
 rw[yK g j k]
 have:∀i,i<=S.length->ic L a b c d S L.length i=bd ((S.map (fun v=>gn L a b c d v L.length)).take i):=by
  intro i
  induction i with
  | zero=>intro _;rfl
  | succ i ih=>
   intro l;have f:i<(S.map (fun v=>gn L a b c d v L.length)).length:=by rw[List.length_map];omega
   rw[ye _ f,<-ih (by omega)];show ic L a b c d S L.length i+gj L a b c d (vA S i) L.length=_;rw[FG g j _ (Nat.le_refl _)]
   have e:(S.map (fun v=>gn L a b c d v L.length)).getD i 0=gn L a b c d (vA S i) L.length:=by
    unfold vA;rw[ώ,List.getElem?_map,Ϗ (show i<S.length by omega),ώ,Ϗ (show i<S.length by omega)];rfl
   rw[e]
 have h:=this S.length (Nat.le_refl _);rw[h,List.take_of_length_le (by rw[List.length_map];exact Nat.le_refl _)]
end
section
def bD(L:List St)(S:List D3):T4×Int:=if fU L S=0 then lE L S (ei L S) else ((0,0,0,0),fU L S)
def eT(t:Tk)(S:List D3):Tk:=
 if t.mode≠0/\2<=bd (dp t.L t.A t.B t.C t.D S) then KU { t with fr:=t.fr+1 } t.A t.B t.C t.D
 else if (bD t.L S).2=0 then KU { t with fr:=t.fr+1 } (bD t.L S).1.1 (bD t.L S).1.2.1 (bD t.L S).1.2.2.1 (bD t.L S).1.2.2.2
 else bS { t with fr:=t.fr+1 }
variable {e:Ending} {code:Int} {ids:List Int} {w':ω}
theorem yT{w:ω}{d b n:Nat}{v:μ}(e:ids.length=n)(h:lq w 2 1 d b n v (fun j=>J Z (ids.getD j 0))):∃a k,v=σ a n k/\jx w a ids n:=by
 rcases h with ⟨rfl,a,k,rfl⟩ | ⟨g,k,rfl,_,_,c⟩
 ·exact⟨a,k,rfl,.inl rfl⟩
 ·exact⟨_,k,rfl,qG c⟩
theorem Bx(L:List St)(S:List D3)(l o:Option η)(i n:Nat)(a b c d:Int)(p:η)(w:ω)(G:L.length<=1048576)(j:L.length<=i)(q:i<=9223372036854775807)(s:S.length<=1048576)(f:S.length<=n)(r:n<=9223372036854775807)(z:aO w l L L.length)(u:bu w o S S.length)(y:bQ p w):
  χ prog 169 #[κ #[σ l L.length i],κ #[J Z a,J Z b,J Z c,J Z d],σ o S.length n] w fun e H=>e=ρ (J Z (bd (dp L a b c d S):Int))/\δ w.1.size w H:=by
 have g:=yz (aJ w (ξ #[σ l L.length i] 82) (ξ #[J Z a,J Z b,J Z c,J Z d] 24));have cM:=yz (tB L S l o i n a b c d p _ G j q s f r (z.kept (yx g)) (u.kept (yx g)) (y.kept (yx g)));have M:=Hi L a b c d S;have t:=yz (fun (W:ω) (x:Option η) (k:Nat) h=>iH (dp L a b c d S) x k W (by omega) h);clear z u y;go_enter func169,ntmps169;go_wp2_with fail;refine(yx cM).mono ?_;rintro e I ⟨⟨v,rfl,A⟩,D⟩;obtain⟨x,k,rfl,B⟩:=yT rfl A;have E:=aB g D;have F:=yz (yx t I x k B);generalize (dp L a b c d S).length=m at *;clear D A B g cM t;go_wp2_with fail;refine(yx F).mono ?_;rintro e K ⟨rfl,C⟩;rw[C];clear C K;go_wp2;go_ret;exact⟨rfl,yx E⟩
theorem Ht{B:Nat}{cnt:Int}(h:MD w' B ids cnt code e):∃a k,e=ρ (κ #[σ a ids.length k,J Z cnt,J Z code])/\jx w' a ids ids.length:=by
 obtain⟨v,c,h⟩:=h;rcases h with ⟨b,rfl⟩ | ⟨g,rfl,_,d⟩
 ·exact⟨ν,0,by rw[c,b];rfl,.inl (by rw[b];rfl)⟩
 ·exact⟨_,_,c,qG d⟩
theorem yO{B:Nat}{cnt:Int}(h:MC w' B ids cnt code e):∃a k,e=ρ (κ #[σ a ids.length k,J Z cnt,J Z code])/\jx w' a ids ids.length:=by
 obtain⟨a,k,b,d⟩:=Hz h;obtain⟨x,y,f,c⟩:=yT (ids:=ids) rfl (show lq w' 2 1 B w'.1.size ids.length (σ a ids.length k) (fun j=>J Z (ids.getD j 0)) from d);rw[f]at b;exact⟨x,y,b,c⟩
theorem ww(T:Array μ)(X:ω)(b:Nat)(p q r s k:Int)(a:T.getD 4 undef=π (ς ⟨b,0,ν⟩))(h:Blk X b [J Z p,J Z q,J Z r,J Z s,J Z k] 132):(results f171 T).run prog X=.ok (κ #[J Z p,J Z q,J Z r,J Z s,J Z k]) X:=by
 obtain⟨c,d,e,f,g⟩:=iZ (h);simp only[Array.getD_eq_getD_getElem?]at a;simp[results,results171,go_sem,a,c,d,e,f,g]
theorem Dx(L:List St)(S:List D3)(c o:Option η)(d q:Nat)(p:η)(w:ω)(hn:L.length<=1048576)(g:L.length<=d)(t:d<=9223372036854775807)(A:S.length<=1048576)(b:S.length<=q)(u:q<=9223372036854775807)(P:aO w c L L.length)(N:bu w o S S.length)(hA:∀y,c=ς y->y.block<w.1.size)(hB:∀y,o=ς y->y.block<w.1.size)(O:bQ p w):
  χ prog 171 #[κ #[σ c L.length d],σ o S.length q] w fun e U=>e=ρ (κ #[J Z (bD L S).1.1,J Z (bD L S).1.2.1,J Z (bD L S).1.2.2.1,J Z (bD L S).1.2.2.2,J Z (bD L S).2])/\δ w.1.size w U:=by
 have n:=yz (aJ w (ξ #[σ c L.length d] 82) (ξ #[J Z 0,J Z 0,J Z 0,J Z 0,J Z 0] 132));have V:=yz ((aq w [σ c L.length d] 82).alloc (ξ #[J Z 0,J Z 0,J Z 0,J Z 0,J Z 0] 132));have R0:=yz (by simpa using aq (w.alloc (ξ #[σ c L.length d] 82)) [J Z 0,J Z 0,J Z 0,J Z 0,J Z 0] 132:Blk ((w.alloc (ξ #[σ c L.length d] 82)).alloc (ξ #[J Z 0,J Z 0,J Z 0,J Z 0,J Z 0] 132)) (w.1.size+1) [J Z 0,J Z 0,J Z 0,J Z 0,J Z 0] 132);have j:=(yx n).size;have cI:=yz (zV L S c o d q p _ hn A g t b u (P.kept (yx n)) (N.kept (yx n)) (fun y e=>ϋ (hA y e) j) (fun y e=>ϋ (hB y e) j) (O.kept (yx n)));have aa:=vw L S;have H:=yz (fun (W:ω) (x:Option η) (k:Nat) (h:δ w.1.size w W) s=>tE L S (ei L S) c o x d q k p W hn g t A b u (by omega) (P.kept h) (N.kept h) s (O.kept h));have Q:fU L S=0->Hid (bD L S=lE L S (ei L S)):=fun h=>yz (by unfold bD;rw[if_pos h]);have s:fU L S≠0->Hid (bD L S=((0,0,0,0),fU L S)):=fun h=>yz (by unfold bD;rw[if_neg h]);clear P N O j hA hB;go_enter func171,ntmps171;go_wp2_with fail;refine(yx cI).mono ?_;rintro e B ⟨hO,i⟩;obtain⟨x,k,rfl,hv⟩:=Ht hO;generalize fU L S=m at *;generalize je L S=r at *;have a:=an B (ξ #[σ x (ei L S).length k,J Z r,J Z m] 192);have E:=aB (aB n i) a;have A1:=aW V i a;have D:=aW R0 i a;have X:=yz (aq B [σ x (ei L S).length k,J Z r,J Z m] 192);have Y:=yz (hv.kept a);clear i hO hv a n V R0 cI;by_cases M:m=0
 ·have C:=Q M;clear Q s;have f:=yz (yx H _ x k (yx E) (yx Y));rw[<-yx C]at f;clear H Y C;obtain⟨⟨⟨t1,t2,t3,t4⟩,tc⟩,l⟩:∃z,bD L S=z:=⟨_,rfl⟩
  rw[l]at f;have F:=yz l;clear l;have I:Hid (χ prog 192 #[σ c L.length d,σ o S.length q,σ x (ei L S).length k] (B.alloc (ξ #[σ x (ei L S).length k,J Z r,J Z m] 192)) fun e U=>e=ρ (κ #[J Z t1,J Z t2,J Z t3,J Z t4,J Z tc])/\δ (B.alloc (ξ #[σ x (ei L S).length k,J Z r,J Z m] 192)).1.size (B.alloc (ξ #[σ x (ei L S).length k,J Z r,J Z m] 192)) U):=f;clear f;generalize (ei L S).length=nI at *;have a0:=(yx A1).cell 0 _ rfl;have R:=dT (yx X);subst M;go_wp2_with fail;clear a0 R;refine(yx I).mono ?_;rintro e w2 ⟨rfl,i⟩;have B2:=aB E i;have G:=ap D i;clear i;have T:=iZ (yx G);have K:=tq (yx G);go_wp2_with fail;clear T K;rw[yx F];refine ϊ (v:=κ #[J Z t1,J Z t2,J Z t3,J Z t4,J Z tc]) ?_ rfl ⟨rfl,?_⟩
  ·exact ww _ _ (w.1.size+1) _ _ _ _ _ rfl ((((((yx G).set 0 _).set 1 _).set 2 _).set 3 _).set 4 _)
  ·iterate 5 (refine aF ?_ (Nat.le_succ _) _ _)
   exact yx B2
 ·have C:=s M;clear Q s H;generalize (ei L S).length=nI at *;have R:=dT (yx X);have T:=iZ (yx D);have K:=tq (yx D);go_wp2_with fail;clear T K R;rw[yx C];refine ϊ (v:=κ #[J Z 0,J Z 0,J Z 0,J Z 0,J Z m]) ?_ rfl ⟨rfl,?_⟩
  ·exact ww _ _ (w.1.size+1) _ _ _ _ _ rfl ((((((yx D).set 0 _).set 1 _).set 2 _).set 3 _).set 4 _)
  ·iterate 5 (refine aF ?_ (Nat.le_succ _) _ _)
   exact yx E
theorem iR(T:Array μ)(X:ω)(b:Nat)(v:μ)(lim c A B C D a d:Int)(e:T.getD 4 undef=π (ς ⟨b,0,ν⟩))(h:fD X b v lim c A B C D a d):(results f143 T).run prog X=.ok (κ #[v,J Z lim,J Z c,J Z A,J Z B,J Z C,J Z D,J Z a,J Z d]) X:=by
 obtain⟨f,g,i,j,k,l,m,n,o⟩:=h;simp only[Array.getD_eq_getD_getElem?]at e;simp[results,results143,go_sem,e,f,g,i,j,k,l,m,n,o]
theorem ou(T:Array μ)(X:ω)(b:Nat)(v:μ)(lim d A B C D a e c:Int)(f:T.getD 4 undef=π (ς ⟨b,0,ν⟩))(h:TkO X b v lim d A B C D a e c):(results f112 T).run prog X=.ok (κ #[v,J Z lim,J Z d,J Z A,J Z B,J Z C,J Z D,J Z a,J Z e,J Z c]) X:=by
 obtain⟨⟨g,i,j,k,l,m,n,o,p⟩,q⟩:=h;simp only[Array.getD_eq_getD_getElem?]at f;simp[results,results112,go_sem,f,g,i,j,k,l,m,n,o,p,q]
end
theorem Ak(L:List St)(S:List D3)(lim c A B C D b f:Int)(i br:Option η)(j dr:Nat)(p:η)(w:ω)(hn:L.length<=1048576)(N:L.length<=j)(aa:j<=9223372036854775807)(ac:S.length<=1048576)(t:S.length<=dr)(ab:dr<=9223372036854775807)(hS:aO w i L L.length)(hD:bu w br S S.length)(hA:∀y,i=ς y->y.block<w.1.size)(hB:∀y,br=ς y->y.block<w.1.size)(hE:bQ p w)(hm:c=0\/c=1\/c=2)(af:0<=b)(ag:b<=5)(ah:0<=f)(ai:f<=1000000):
  χ prog 143 #[κ #[σ i L.length j,J Z lim,J Z c,J Z A,J Z B,J Z C,J Z D,J Z b,J Z f],σ br S.length dr] w fun e w'=>e=ρ (tkV i L.length j (eT ⟨L,lim,c,A,B,C,D,b,f⟩ S))/\δ w.1.size w w':=by
 have aj:wrap64 (f+1)=f+1:=au (by omega) (by omega);have x:=yz (aJ w (ξ #[σ i L.length j,J Z lim,J Z c,J Z A,J Z B,J Z C,J Z D,J Z b,J Z (f+1)] 84) (ξ #[σ ν 0 0,J Z 0,J Z 0,J Z 0,J Z 0,J Z 0,J Z 0,J Z 0,J Z 0] 84));have K:=yz ((aq w [σ i L.length j,J Z lim,J Z c,J Z A,J Z B,J Z C,J Z D,J Z b,J Z (f+1)] 84).alloc (ξ #[σ ν 0 0,J Z 0,J Z 0,J Z 0,J Z 0,J Z 0,J Z 0,J Z 0,J Z 0] 84));have R0:=yz (by simpa using aq (w.alloc (ξ #[σ i L.length j,J Z lim,J Z c,J Z A,J Z B,J Z C,J Z D,J Z b,J Z (f+1)] 84)) [σ ν 0 0,J Z 0,J Z 0,J Z 0,J Z 0,J Z 0,J Z 0,J Z 0,J Z 0] 84:Blk ((w.alloc (ξ #[σ i L.length j,J Z lim,J Z c,J Z A,J Z B,J Z C,J Z D,J Z b,J Z (f+1)] 84)).alloc (ξ #[σ ν 0 0,J Z 0,J Z 0,J Z 0,J Z 0,J Z 0,J Z 0,J Z 0,J Z 0] 84)) (w.1.size+1) [σ ν 0 0,J Z 0,J Z 0,J Z 0,J Z 0,J Z 0,J Z 0,J Z 0,J Z 0] 84);have cC:=yz (fun (W:ω) (h:δ w.1.size w W)=>Bx L S i br j dr A B C D p W hn N aa ac t ab (hS.kept h) (hD.kept h) (hE.kept h));have cT:=yz (fun (W:ω) (h:δ w.1.size w W)=>Dx L S i br j dr p W hn N aa ac t ab (hS.kept h) (hD.kept h) (fun y e=>ϋ (hA y e) h.size) (fun y e=>ϋ (hB y e) h.size) (hE.kept h));have cU:=yz (fun (W:ω)=>AV L lim c A B C D b (f+1) i L.length j W hm af (by omega));have n:Hid (c≠0->2<=bd (dp L A B C D S)->tkV i L.length j (eT ⟨L,lim,c,A,B,C,D,b,f⟩ S)=κ #[σ i L.length j,J Z lim,J Z 1,J Z A,J Z B,J Z C,J Z D,J Z 0,J Z (f+1)]):=yz (fun H M=>by unfold eT;rw[if_pos ⟨H,M⟩];rfl);have l:Hid (¬(c≠0/\2<=bd (dp L A B C D S))->(bD L S).2=0->tkV i L.length j (eT ⟨L,lim,c,A,B,C,D,b,f⟩ S)=κ #[σ i L.length j,J Z lim,J Z 1,J Z (bD L S).1.1,J Z (bD L S).1.2.1,J Z (bD L S).1.2.2.1,J Z (bD L S).1.2.2.2,J Z 0,J Z (f+1)]):=yz (fun H M=>by unfold eT;rw[if_neg H,if_pos M];rfl);have k:Hid (¬(c≠0/\2<=bd (dp L A B C D S))->(bD L S).2≠0->tkV i L.length j (eT ⟨L,lim,c,A,B,C,D,b,f⟩ S)=κ #[σ i L.length j,J Z (bS ⟨L,lim,c,A,B,C,D,b,f+1⟩).lim,J Z (bS ⟨L,lim,c,A,B,C,D,b,f+1⟩).mode,J Z (bS ⟨L,lim,c,A,B,C,D,b,f+1⟩).A,J Z (bS ⟨L,lim,c,A,B,C,D,b,f+1⟩).B,J Z (bS ⟨L,lim,c,A,B,C,D,b,f+1⟩).C,J Z (bS ⟨L,lim,c,A,B,C,D,b,f+1⟩).D,J Z (bS ⟨L,lim,c,A,B,C,D,b,f+1⟩).coast,J Z (bS ⟨L,lim,c,A,B,C,D,b,f+1⟩).fr]):=yz (fun H M=>by unfold eT;rw[if_neg H,if_neg M];rfl);generalize bd (dp L A B C D S)=cn at *;obtain⟨⟨⟨o,q,r,s⟩,R⟩,Q⟩:∃z,bD L S=z:=⟨_,rfl⟩
 rw[Q]at l k cT;dsimp only at l k cT;obtain⟨uv,ad⟩:∃u,bS ⟨L,lim,c,A,B,C,D,b,f+1⟩=u:=⟨_,rfl⟩
 rw[ad]at k cU;obtain⟨uL,T,U,V,X,Y,u6,u7,u8⟩:=uv;unfold tkV at cU;dsimp only at cU k;have HL:=yz Q;clear hS hD hE Q ad hA hB hm;by_cases H:c=0
 ·have m:¬(c≠0/\2<=cn):=fun h=>h.1 H;subst H;go_enter func143,ntmps143;go_wp2_with fail;refine(yx cT _ (yx x)).mono ?_;rintro e w2 ⟨rfl,g⟩;have a:=an w2 (ξ #[J Z o,J Z q,J Z r,J Z s,J Z R] 132);have B2:=aB (aB x g) a;have A2:=aW K g a;have R2:=aW R0 g a;have T2:=yz (aq w2 [J Z o,J Z q,J Z r,J Z s,J Z R] 132);clear g a;have O:=bO (yx A2);have s0:=iZ (yx T2);by_cases P:R=0
  ·have F:=yz (yx l m P);clear n l k;subst P;go_wp2_with fail;clear O s0;refine(mL lim _ A B C D b (f+1) o q r s i L.length j _).mono ?_;rintro e w3 ⟨rfl,g⟩;have E:=aB B2 g;have d:=ap R2 g;clear g;have I:=bO (yx d);have G:=iG (yx d);go_wp2_with fail;clear I G;rw[yx F];refine ϊ (v:=κ #[σ i L.length j,J Z lim,J Z 1,J Z o,J Z q,J Z r,J Z s,J Z 0,J Z (f+1)]) ?_ rfl ⟨rfl,?_⟩
   ·refine iR _ _ (w.1.size+1) _ lim 1 o q r s 0 (f+1) rfl ?_;exact fu (lim0:=0) (mode0:=0) (A0:=0) (B0:=0) (C0:=0) (D0:=0) (coast0:=0) (fr0:=0) (u:=σ ν 0 0) ⟨(yx d).cell 0 _ rfl,(yx d).cell 1 _ rfl,(yx d).cell 2 _ rfl,(yx d).cell 3 _ rfl,(yx d).cell 4 _ rfl,(yx d).cell 5 _ rfl,(yx d).cell 6 _ rfl,(yx d).cell 7 _ rfl,(yx d).cell 8 _ rfl⟩ _ lim 1 o q r s 0 (f+1)
   ·iterate 9 (refine aF ?_ (Nat.le_succ _) _ _)
    exact yx E
  ·have F:=yz (yx k m P);clear n l k;go_wp2_with fail;clear O s0;refine(yx cU _).mono ?_;rintro e w3 ⟨rfl,g⟩;have E:=aB B2 g;have d:=ap R2 g;clear g;have I:=bO (yx d);have G:=iG (yx d);go_wp2_with fail;clear I G;rw[yx F];refine ϊ (v:=κ #[σ i L.length j,J Z T,J Z U,J Z V,J Z X,J Z Y,J Z u6,J Z u7,J Z u8]) ?_ rfl ⟨rfl,?_⟩
   ·refine iR _ _ (w.1.size+1) _ T U V X Y u6 u7 u8 rfl ?_;exact fu (lim0:=0) (mode0:=0) (A0:=0) (B0:=0) (C0:=0) (D0:=0) (coast0:=0) (fr0:=0) (u:=σ ν 0 0) ⟨(yx d).cell 0 _ rfl,(yx d).cell 1 _ rfl,(yx d).cell 2 _ rfl,(yx d).cell 3 _ rfl,(yx d).cell 4 _ rfl,(yx d).cell 5 _ rfl,(yx d).cell 6 _ rfl,(yx d).cell 7 _ rfl,(yx d).cell 8 _ rfl⟩ _ T U V X Y u6 u7 u8
   ·iterate 9 (refine aF ?_ (Nat.le_succ _) _ _)
    exact yx E
 go_enter func143,ntmps143;go_wp2_with fail;refine(yx cC _ (yx x)).mono ?_;rintro e w1 ⟨rfl,g⟩;have B1:=aB x g;have A1:=ap K g;have R1:=ap R0 g;clear g x K R0;have O:=bO (yx A1);by_cases M:2<=cn
 ·have F:=yz (yx n H M);clear n l k;have ae:(2:Int)<=(cn:Int):=by omega
  go_wp2_with fail;clear O;refine(mL lim c A B C D b (f+1) A B C D i L.length j _).mono ?_;rintro e w3 ⟨rfl,g⟩;have E:=aB B1 g;have d:=ap R1 g;clear g;have I:=bO (yx d);have G:=iG (yx d);go_wp2_with fail;clear I G;rw[yx F];refine ϊ (v:=κ #[σ i L.length j,J Z lim,J Z 1,J Z A,J Z B,J Z C,J Z D,J Z 0,J Z (f+1)]) ?_ rfl ⟨rfl,?_⟩
  ·refine iR _ _ (w.1.size+1) _ lim 1 A B C D 0 (f+1) rfl ?_;exact fu (lim0:=0) (mode0:=0) (A0:=0) (B0:=0) (C0:=0) (D0:=0) (coast0:=0) (fr0:=0) (u:=σ ν 0 0) ⟨(yx d).cell 0 _ rfl,(yx d).cell 1 _ rfl,(yx d).cell 2 _ rfl,(yx d).cell 3 _ rfl,(yx d).cell 4 _ rfl,(yx d).cell 5 _ rfl,(yx d).cell 6 _ rfl,(yx d).cell 7 _ rfl,(yx d).cell 8 _ rfl⟩ _ lim 1 A B C D 0 (f+1)
  ·iterate 9 (refine aF ?_ (Nat.le_succ _) _ _)
   exact yx E
 have m:¬(c≠0/\2<=cn):=fun h=>M h.2;have ae:¬(2:Int)<=(cn:Int):=by omega
 go_wp2_with fail;clear O;refine(yx cT _ (yx B1)).mono ?_;rintro e w2 ⟨rfl,g⟩;have a:=an w2 (ξ #[J Z o,J Z q,J Z r,J Z s,J Z R] 132);have B2:=aB (aB B1 g) a;have A2:=aW A1 g a;have R2:=aW R1 g a;have T2:=yz (aq w2 [J Z o,J Z q,J Z r,J Z s,J Z R] 132);clear g a;have O:=bO (yx A2);have s0:=iZ (yx T2);by_cases P:R=0
 ·have F:=yz (yx l m P);clear n l k;subst P;go_wp2_with fail;clear O s0;refine(mL lim _ A B C D b (f+1) o q r s i L.length j _).mono ?_;rintro e w3 ⟨rfl,g⟩;have E:=aB B2 g;have d:=ap R2 g;clear g;have I:=bO (yx d);have G:=iG (yx d);go_wp2_with fail;clear I G;rw[yx F];refine ϊ (v:=κ #[σ i L.length j,J Z lim,J Z 1,J Z o,J Z q,J Z r,J Z s,J Z 0,J Z (f+1)]) ?_ rfl ⟨rfl,?_⟩
  ·refine iR _ _ (w.1.size+1) _ lim 1 o q r s 0 (f+1) rfl ?_;exact fu (lim0:=0) (mode0:=0) (A0:=0) (B0:=0) (C0:=0) (D0:=0) (coast0:=0) (fr0:=0) (u:=σ ν 0 0) ⟨(yx d).cell 0 _ rfl,(yx d).cell 1 _ rfl,(yx d).cell 2 _ rfl,(yx d).cell 3 _ rfl,(yx d).cell 4 _ rfl,(yx d).cell 5 _ rfl,(yx d).cell 6 _ rfl,(yx d).cell 7 _ rfl,(yx d).cell 8 _ rfl⟩ _ lim 1 o q r s 0 (f+1)
  ·iterate 9 (refine aF ?_ (Nat.le_succ _) _ _)
   exact yx E
 ·have F:=yz (yx k m P);clear n l k;go_wp2_with fail;clear O s0;refine(yx cU _).mono ?_;rintro e w3 ⟨rfl,g⟩;have E:=aB B2 g;have d:=ap R2 g;clear g;have I:=bO (yx d);have G:=iG (yx d);go_wp2_with fail;clear I G;rw[yx F];refine ϊ (v:=κ #[σ i L.length j,J Z T,J Z U,J Z V,J Z X,J Z Y,J Z u6,J Z u7,J Z u8]) ?_ rfl ⟨rfl,?_⟩
  ·refine iR _ _ (w.1.size+1) _ T U V X Y u6 u7 u8 rfl ?_;exact fu (lim0:=0) (mode0:=0) (A0:=0) (B0:=0) (C0:=0) (D0:=0) (coast0:=0) (fr0:=0) (u:=σ ν 0 0) ⟨(yx d).cell 0 _ rfl,(yx d).cell 1 _ rfl,(yx d).cell 2 _ rfl,(yx d).cell 3 _ rfl,(yx d).cell 4 _ rfl,(yx d).cell 5 _ rfl,(yx d).cell 6 _ rfl,(yx d).cell 7 _ rfl,(yx d).cell 8 _ rfl⟩ _ T U V X Y u6 u7 u8
  ·iterate 9 (refine aF ?_ (Nat.le_succ _) _ _)
   exact yx E
section
def cx(t:Tk)(S:List D3):Tk:=if 400<S.length then dW else if (aM t&&aQ S)=θ then (if t.fr=1000000 then dW else eT t S) else dW
def eS(t:Tk)(S:List D3):Int:=if 400<S.length then 2 else if (aM t&&aQ S)=θ then (if t.fr=1000000 then 9 else 0) else 1
variable {b:Nat} {t:TypeId} {w:ω}
theorem Co{t:Tk}{S:List D3}(h:400<S.length):cx t S=dW/\eS t S=2:=by unfold cx eS;rw[if_pos h,if_pos h];exact⟨rfl,rfl⟩
theorem nG{t:Tk}{S:List D3}(h:¬400<S.length)(a:(aM t&&aQ S)=φ):cx t S=dW/\eS t S=1:=by unfold cx eS;rw[if_neg h,if_neg h,a];exact⟨rfl,rfl⟩
theorem yJ{t:Tk}{S:List D3}(h:¬400<S.length)(b:aM t=θ)(c:aQ S=θ)(a:t.fr=1000000):cx t S=dW/\eS t S=9:=by unfold cx eS;rw[if_neg h,if_neg h,b,c,if_pos a,if_pos a];exact⟨rfl,rfl⟩
theorem Cp{t:Tk}{S:List D3}(h:¬400<S.length)(b:aM t=θ)(c:aQ S=θ)(a:t.fr≠1000000):cx t S=eT t S/\eS t S=0:=by unfold cx eS;rw[if_neg h,if_neg h,b,c,if_neg a,if_neg a];exact⟨rfl,rfl⟩
theorem DB(t:Tk):(bS t).L=t.L:=by
 unfold bS;split
 ·rfl
 ·split<;>rfl
theorem Aj(t:Tk)(S:List D3):(eT t S).L=t.L:=by
 unfold eT;split
 ·rfl
 ·split
  ·rfl
  ·rw[DB]
theorem sV{t:Tk}(h:aM t=θ):bE t.L=θ/\(t.mode=0\/t.mode=1\/t.mode=2)/\(t.mode≠0->aG t.A t.B t.C t.D=θ)/\(0<=t.coast/\t.coast<=5)/\(0<=t.fr/\t.fr<=1000000):=by
 unfold aM oZ at h;simp only[ύ]at h;obtain⟨⟨⟨d,e⟩,c⟩,a⟩:=h;rw[iU]at e c;unfold lH at a;split at a
 ·rename_i b
  simp only[ύ,decide_eq_true_eq]at a;exact⟨d,.inl b,fun h=>absurd b h,by omega,c⟩
 ·split at a
  ·rename_i b
   simp only[ύ,decide_eq_true_eq]at a;exact⟨d,.inr (.inl b),fun _=>a.1,by omega,c⟩
  ·split at a
   ·rename_i b
    simp only[ύ,iU]at a;exact⟨d,.inr (.inr b),fun _=>a.1,by omega,c⟩
   ·cases a
theorem aZ{L:List μ}(h:Blk w b L t)(f:L.length=10)(v:μ)(lim d A B C D a e c:Int):Blk ((((((((((w.setCell ⟨b,0,ν⟩ v).setCell ⟨b,1,ν⟩ (J Z lim)).setCell ⟨b,2,ν⟩ (J Z d)).setCell ⟨b,3,ν⟩ (J Z A)).setCell ⟨b,4,ν⟩ (J Z B)).setCell ⟨b,5,ν⟩ (J Z C)).setCell ⟨b,6,ν⟩ (J Z D)).setCell ⟨b,7,ν⟩ (J Z a)).setCell ⟨b,8,ν⟩ (J Z e)).setCell ⟨b,9,ν⟩ (J Z c)) b [v,J Z lim,J Z d,J Z A,J Z B,J Z C,J Z D,J Z a,J Z e,J Z c] t:=by
 match L,f with
 | [x0,x1,x2,x3,x4,x5,x6,x7,x8,x9],_=>exact(((((((((h.set 0 _).set 1 _).set 2 _).set 3 _).set 4 _).set 5 _).set 6 _).set 7 _).set 8 _).set 9 _
theorem bJ{v:μ}{lim d A B C D a e c:Int}(h:Blk w b [v,J Z lim,J Z d,J Z A,J Z B,J Z C,J Z D,J Z a,J Z e,J Z c] t):TkO w b v lim d A B C D a e c:=⟨⟨h.cell 0 _ rfl,h.cell 1 _ rfl,h.cell 2 _ rfl,h.cell 3 _ rfl,h.cell 4 _ rfl,h.cell 5 _ rfl,h.cell 6 _ rfl,h.cell 7 _ rfl,h.cell 8 _ rfl⟩,h.cell 9 _ rfl⟩
theorem qs(L:List St)(S:List D3)(lim d A B C D b i:Int)(q:Option η)(c:Nat)(N:Option η)(R:Nat)(p:η)(w:ω)(hn:L.length<=1048576)(Y:S.length<=1048576)(hS:aO w q L L.length)(hD:bu w N S S.length)(hb:∀y,q=ς y->y.block<w.1.size)(hB:∀y,N=ς y->y.block<w.1.size)(T:L.length<=c)(ag:c<=9223372036854775807)(o:S.length<=R)(V:R<=9223372036854775807)(hE:bQ p w):
  χ prog 112 #[κ #[σ q L.length c,J Z lim,J Z d,J Z A,J Z B,J Z C,J Z D,J Z b,J Z i],σ N S.length R] w fun e w'=>jy w' w.1.size (cx ⟨L,lim,d,A,B,C,D,b,i⟩ S) (eS ⟨L,lim,d,A,B,C,D,b,i⟩ S) e/\δ w.1.size w w':=by
 have M:=yz (aJ w (ξ #[σ q L.length c,J Z lim,J Z d,J Z A,J Z B,J Z C,J Z D,J Z b,J Z i] 38) (ξ #[σ ν 0 0,J Z 0,J Z 0,J Z 0,J Z 0,J Z 0,J Z 0,J Z 0,J Z 0,J Z 0] 52));have A0:=yz ((aq w [σ q L.length c,J Z lim,J Z d,J Z A,J Z B,J Z C,J Z D,J Z b,J Z i] 38).alloc (ξ #[σ ν 0 0,J Z 0,J Z 0,J Z 0,J Z 0,J Z 0,J Z 0,J Z 0,J Z 0,J Z 0] 52));have R0:=yz (by simpa using aq (w.alloc (ξ #[σ q L.length c,J Z lim,J Z d,J Z A,J Z B,J Z C,J Z D,J Z b,J Z i] 38)) [σ ν 0 0,J Z 0,J Z 0,J Z 0,J Z 0,J Z 0,J Z 0,J Z 0,J Z 0,J Z 0] 52:Blk ((w.alloc (ξ #[σ q L.length c,J Z lim,J Z d,J Z A,J Z B,J Z C,J Z D,J Z b,J Z i] 38)).alloc (ξ #[σ ν 0 0,J Z 0,J Z 0,J Z 0,J Z 0,J Z 0,J Z 0,J Z 0,J Z 0,J Z 0] 52)) (w.1.size+1) [σ ν 0 0,J Z 0,J Z 0,J Z 0,J Z 0,J Z 0,J Z 0,J Z 0,J Z 0,J Z 0] 52);have S0:=yz (hS.kept (yx M));have D0:=yz (hD.kept (yx M));have E0:=yz (hE.kept (yx M));have ai:=(yx M).size;have ab:∀y,N=ς y->y.block<(w.alloc (ξ #[σ q L.length c,J Z lim,J Z d,J Z A,J Z B,J Z C,J Z D,J Z b,J Z i] 38)).1.size+1:=fun y e=>by have:=hB y e;simp;omega
 clear hS hD hE ab;by_cases j:400<S.length
 ·have l:=yz (Co (t:=⟨L,lim,d,A,B,C,D,b,i⟩) j);have af:(400:Int)<(S.length:Int):=by omega
  clear j;go_enter func112,ntmps112;go_wp2;refine ϊ (v:=κ #[σ ν 0 0,J Z 0,J Z 0,J Z 0,J Z 0,J Z 0,J Z 0,J Z 0,J Z 0,J Z 2]) (by simp[results,results112,go_sem]) rfl ⟨?_,aJ _ _ _⟩;rw[(yx l).1,(yx l).2];exact du _ _ _
 have af:¬(400:Int)<(S.length:Int):=by omega
 have cR:=yz (gQ L lim d A B C D b i q c p _ hn T ag (yx S0) (yx E0));go_enter func112,ntmps112;go_wp2_with fail;refine(yx cR).mono ?_;rintro e w1 ⟨rfl,f⟩;have A1:=ap A0 f;have P:=ap R0 f;have S1:=ap S0 f;have D1:=ap D0 f;have E1:=ap E0 f;have B1:=aB M f;have aj:=f.size;clear f cR A0 R0 S0 D0 E0 M;cases G:aM ⟨L,lim,d,A,B,C,D,b,i⟩
 ·have l:=yz (nG (t:=⟨L,lim,d,A,B,C,D,b,i⟩) (S:=S) j (by rw[G];rfl));clear G;have K:=ck (yx P);have H:=dU (yx P);go_wp2_with fail;clear K H;refine ϊ (v:=κ #[σ ν 0 0,J Z 0,J Z 0,J Z 0,J Z 0,J Z 0,J Z 0,J Z 0,J Z 0,J Z 1]) ?_ rfl ⟨?_,?_⟩
  ·exact ou _ _ (w.1.size+1) _ 0 0 0 0 0 0 0 0 1 rfl (bJ (aZ (yx P) rfl _ 0 0 0 0 0 0 0 0 1))
  ·rw[(yx l).1,(yx l).2];exact du _ _ _
  ·iterate 10 (refine aF ?_ (Nat.le_succ _) _ _)
   exact yx B1
 go_wp2_with fail;refine(gx S N R _ Y o V (yx D1)).mono ?_;rintro e w2 ⟨rfl,f⟩;have A2:=ap A1 f;have F:=ap P f;have S2:=ap S1 f;have D2:=ap D1 f;have E2:=ap E1 f;have B2:=aB B1 f;have ak:=f.size;clear f A1 P S1 D1 E1 B1;cases O:aQ S
 ·have l:=yz (nG (t:=⟨L,lim,d,A,B,C,D,b,i⟩) (S:=S) j (by rw[O];simp));clear G O;have K:=ck (yx F);have H:=dU (yx F);go_wp2_with fail;clear K H;refine ϊ (v:=κ #[σ ν 0 0,J Z 0,J Z 0,J Z 0,J Z 0,J Z 0,J Z 0,J Z 0,J Z 0,J Z 1]) ?_ rfl ⟨?_,?_⟩
  ·exact ou _ _ (w.1.size+1) _ 0 0 0 0 0 0 0 0 1 rfl (bJ (aZ (yx F) rfl _ 0 0 0 0 0 0 0 0 1))
  ·rw[(yx l).1,(yx l).2];exact du _ _ _
  ·iterate 10 (refine aF ?_ (Nat.le_succ _) _ _)
   exact yx B2
 by_cases hf:i=1000000
 ·have l:=yz (yJ (t:=⟨L,lim,d,A,B,C,D,b,i⟩) (S:=S) j G O hf);clear G O;have q0:=bO (yx A2);have K:=ck (yx F);have H:=dU (yx F);go_wp2_with fail;clear K H;refine ϊ (v:=κ #[σ ν 0 0,J Z 0,J Z 0,J Z 0,J Z 0,J Z 0,J Z 0,J Z 0,J Z 0,J Z 9]) ?_ rfl ⟨?_,?_⟩
  ·exact ou _ _ (w.1.size+1) _ 0 0 0 0 0 0 0 0 9 rfl (bJ (aZ (yx F) rfl _ 0 0 0 0 0 0 0 0 9))
  ·rw[(yx l).1,(yx l).2];exact du _ _ _
  ·iterate 10 (refine aF ?_ (Nat.le_succ _) _ _)
   exact yx B2
 have l:=yz (Cp (t:=⟨L,lim,d,A,B,C,D,b,i⟩) (S:=S) j G O hf);have HL:=yz (Aj ⟨L,lim,d,A,B,C,D,b,i⟩ S);obtain⟨aa,I,_,x,E⟩:=sV G;dsimp only at aa I x E;have cW:=yz (fun W h=>mO L lim d A B C D b i q c W hn h);have Q:=yz (fun (W:ω) (a:Option η) (n:Nat) h1 h2 h3 h4 h5 h6 h7=>Ak L S lim d A B C D b i a N n R p W hn h1 h2 Y o V h3 h4 h5 h6 h7 I x.1 x.2 E.1 E.2);obtain⟨lr,X⟩:∃z,eT ⟨L,lim,d,A,B,C,D,b,i⟩ S=z:=⟨_,rfl⟩
 rw[X]at l HL Q;obtain⟨L2,m,k,A2',r,C2,s,g,u⟩:=lr;unfold tkV at Q;dsimp only at Q HL;clear G O X aa I x E;have q0:=bO (yx A2);go_wp2_with fail;clear q0;refine(yx cW _ (yx S2)).mono ?_;rintro e w3 ⟨a,n,rfl,hC,f⟩;have C3:=yz (hC.low (B':=w.1.size+1+1) (by omega));have U:=hC.capMax;have ae:∀y,a=ς y->y.block<w3.1.size:=fun y e=>(hC.block y e).2;have R3:=ap F f;have D3:=ap D2 f;have E3:=ap E2 f;have B3:=aB B2 f;have al:=f.size;clear f hC A2 F S2 D2 E2 B2 cW;have ah:maxLen<=9223372036854775807:=by decide +kernel
 go_wp2_with fail;refine(yx Q _ a n U.1 (Nat.le_trans U.2 ah) (yx C3).stars (yx D3) ae (fun y e=>by have:=hB y e;omega) (yx E3)).mono ?_;rintro e w4 ⟨rfl,f⟩;have C4:=ap C3 f;have R4:=ap R3 f;have B4:=aB B3 f;clear f C3 R3 B3 D3 E3 Q;go_wp2_with fail;refine(rj m k A2' r C2 s g u a L.length n _).mono ?_;rintro e w5 ⟨rfl,f⟩;have C5:=ap C4 f;have R5:=ap R4 f;have B5:=aB B4 f;clear f C4 R4 B4;have K:=ck (yx R5);have H:=dU (yx R5);go_wp2_with fail;clear K H;have ac:L2=L:=yx HL;refine ϊ (v:=κ #[σ a L.length n,J Z m,J Z k,J Z A2',J Z r,J Z C2,J Z s,J Z g,J Z u,J Z 0]) ?_ rfl ⟨?_,?_⟩
 ·exact ou _ _ (w.1.size+1) _ m k A2' r C2 s g u 0 rfl (bJ (aZ (yx R5) rfl _ m k A2' r C2 s g u 0))
 ·rw[(yx l).1,(yx l).2];subst ac;refine⟨a,n,rfl,?_⟩;refine ax.low (B:=w.1.size+1+1) ?_ (by omega);iterate 10 (refine ax.far ?_ (ό (w.1.size+1)) _ _)
  exact yx C5
 ·iterate 10 (refine aF ?_ (Nat.le_succ _) _ _)
  exact yx B5
end
theorem fH(T:Array μ)(X:ω)(b:Nat)(v:μ)(lim d A B C D a e c:Int)(f:T.getD 4 undef=π (ς ⟨b,0,ν⟩))(h:TkO X b v lim d A B C D a e c):(results f128 T).run prog X=.ok (κ #[v,J Z lim,J Z d,J Z A,J Z B,J Z C,J Z D,J Z a,J Z e,J Z c]) X:=by
 obtain⟨⟨g,i,j,k,l,m,n,o,p⟩,q⟩:=h;simp only[Array.getD_eq_getD_getElem?]at f;simp[results,results128,go_sem,f,g,i,j,k,l,m,n,o,p,q]
theorem lQ(T:Array μ)(X:ω)(b:Nat)(v:μ)(lim d A B C D a e c:Int)(f:T.getD 4 undef=π (ς ⟨b,0,ν⟩))(h:TkO X b v lim d A B C D a e c):(results f93 T).run prog X=.ok (κ #[v,J Z lim,J Z d,J Z A,J Z B,J Z C,J Z D,J Z a,J Z e,J Z c]) X:=by
 obtain⟨⟨g,i,j,k,l,m,n,o,p⟩,q⟩:=h;simp only[Array.getD_eq_getD_getElem?]at f;simp[results,results93,go_sem,f,g,i,j,k,l,m,n,o,p,q]
theorem Fd{L:List St}{S:List D3}(a:bE L=θ)(b:aQ S=θ)(e:dn L S=0):bD L S=lE L S (dL L S):=by
 have f:=(ff a).1;have h:=(bN b).1;obtain⟨c,g,d⟩:=on (L:=L) (S:=S) (by omega) (by unfold ts;rw[a,b];rfl);unfold bD;rw[d,if_pos e,c]
theorem Iq{L:List St}{S:List D3}(b:bE L=θ)(c:aQ S=θ)(a:dn L S≠0):(bD L S).2≠0:=by
 have e:=(ff b).1;have h:=(bN c).1;obtain⟨f,g,d⟩:=on (L:=L) (S:=S) (by omega) (by unfold ts;rw[b,c];rfl);unfold bD;rw[d,if_neg a];exact a
theorem Ci(L:List St)(S:List D3)(lim f A B C D d i:Int)(Q:Option η)(c:Nat)(br:Option η)(dr:Nat)(w:ω)(hn:L.length<=1048576)(ao:S.length<=dr)(am:dr<=9223372036854775807)(hS:aO w Q L L.length)(hD:bu w br S S.length)(hb:∀y,Q=ς y->y.block<w.1.size)(hB:∀y,br=ς y->y.block<w.1.size)(F:bE L=θ)(G:aQ S=θ)(hm:f=0\/f=1\/f=2)(hr:f≠0->aG A B C D=θ)(az:0<=d)(aA:d<=5)(ar:0<=i)(av:i<=1000000):
  χ prog 128 #[κ #[σ Q L.length c,J Z lim,J Z f,J Z A,J Z B,J Z C,J Z D,J Z d,J Z i],σ br S.length dr] w fun e w'=>jy w' w.1.size (eT ⟨L,lim,f,A,B,C,D,d,i⟩ S) 0 e/\δ w.1.size w w':=by
 have aH:wrap64 (i+1)=i+1:=au (by omega) (by omega);have aE:wrap64 (d+1)=d+1:=au (by omega) (by omega);have B0:=yz (aJ w (ξ #[σ Q L.length c,J Z lim,J Z f,J Z A,J Z B,J Z C,J Z D,J Z d,J Z i] 38) (ξ #[σ ν 0 0,J Z 0,J Z 0,J Z 0,J Z 0,J Z 0,J Z 0,J Z 0,J Z 0,J Z 0] 52));have A0:=yz ((aq w [σ Q L.length c,J Z lim,J Z f,J Z A,J Z B,J Z C,J Z D,J Z d,J Z i] 38).alloc (ξ #[σ ν 0 0,J Z 0,J Z 0,J Z 0,J Z 0,J Z 0,J Z 0,J Z 0,J Z 0,J Z 0] 52));have R0:=yz (by simpa using aq (w.alloc (ξ #[σ Q L.length c,J Z lim,J Z f,J Z A,J Z B,J Z C,J Z D,J Z d,J Z i] 38)) [σ ν 0 0,J Z 0,J Z 0,J Z 0,J Z 0,J Z 0,J Z 0,J Z 0,J Z 0,J Z 0] 52:Blk ((w.alloc (ξ #[σ Q L.length c,J Z lim,J Z f,J Z A,J Z B,J Z C,J Z D,J Z d,J Z i] 38)).alloc (ξ #[σ ν 0 0,J Z 0,J Z 0,J Z 0,J Z 0,J Z 0,J Z 0,J Z 0,J Z 0,J Z 0] 52)) (w.1.size+1) [σ ν 0 0,J Z 0,J Z 0,J Z 0,J Z 0,J Z 0,J Z 0,J Z 0,J Z 0,J Z 0] 52);have ai:w.1.size+1+1<=((w.alloc (ξ #[σ Q L.length c,J Z lim,J Z f,J Z A,J Z B,J Z C,J Z D,J Z d,J Z i] 38)).alloc (ξ #[σ ν 0 0,J Z 0,J Z 0,J Z 0,J Z 0,J Z 0,J Z 0,J Z 0,J Z 0,J Z 0] 52)).1.size:=by simp
 have cC:=yz (kO L lim f A B C D d i Q c _ hn (hS.kept (yx B0)))
 have cM:Hid (f≠0->∀W:ω,δ w.1.size w W->χ prog 154 #[σ Q L.length c,κ #[J Z A,J Z B,J Z C,J Z D],σ br S.length dr] W fun e w'=>(∃v,e=ρ (.tuple #[v,J Z (bd (dp L A B C D S):Int)]))/\δ W.1.size W w'):=yz (fun V W h=>(Ag L S _ br c dr A B C D W F (hr V) G (hS.kept h) (hD.kept h)).mono fun e w' hh=>by
  obtain⟨⟨v,he,_⟩,g⟩:=hh;rw[Jj F (hr V) G]at he
  exact⟨⟨v,he⟩,g⟩)
 have cI:=yz (fun (W:ω) (h:δ w.1.size w W)=>tG L S Q br c dr W F G ao am (hS.kept h) (hD.kept h) (fun y e=>ϋ (hb y e) h.size) (fun y e=>ϋ (hB y e) h.size));obtain⟨⟨⟨I,K,M,N⟩,X⟩,ac⟩:∃z,bD L S=z:=⟨_,rfl⟩
 have cF:Hid (dn L S=0->∀(W:ω) (x:Option η) (k:Nat),δ w.1.size w W->jx W x (dL L S) (dL L S).length->χ prog 157 #[σ Q L.length c,σ br S.length dr,σ x (dL L S).length k] W fun e w'=>e=ρ (κ #[J Z I,J Z K,J Z M,J Z N,J Z X])/\δ W.1.size W w'):=yz (fun V W x k h hN=>by
  have u:=Ek L S (dL L S) _ br x c dr k W (sJ F G V) (hS.kept h) (hD.kept h) hN;rw[GM F G V,<-Fd F G V,ac]at u
  exact u)
 have ah:Hid (dn L S≠0->X≠0):=yz (fun V=>by have:=Iq F G V;rw[ac]at this;exact this);have al:Hid (f≠0->2<=bd (dp L A B C D S)->eT ⟨L,lim,f,A,B,C,D,d,i⟩ S=⟨L,lim,1,A,B,C,D,0,i+1⟩):=yz (fun u h2=>by unfold eT;rw[if_pos ⟨u,h2⟩];rfl);have ag:Hid (¬(f≠0/\2<=bd (dp L A B C D S))->X=0->eT ⟨L,lim,f,A,B,C,D,d,i⟩ S=⟨L,lim,1,I,K,M,N,0,i+1⟩):=yz (fun u h2=>by unfold eT;dsimp only;rw[if_neg u,ac,if_pos h2];rfl);have R:Hid (¬(f≠0/\2<=bd (dp L A B C D S))->X≠0->eT ⟨L,lim,f,A,B,C,D,d,i⟩ S=bS ⟨L,lim,f,A,B,C,D,d,i+1⟩):=yz (fun u h2=>by unfold eT;dsimp only;rw[if_neg u,ac,if_neg h2]);have aw:=vw L S;generalize bd (dp L A B C D S)=cn at *;clear hS ac F G hr ar av aw;have aD:=hm;clear hm;go_enter func128,ntmps128;go_wp2_with fail;refine(yx cC).mono ?_;rintro e m ⟨a,j,rfl,hC,g⟩;have b:=an m (ξ #[σ a L.length j,J Z lim,J Z f,J Z A,J Z B,J Z C,J Z D,J Z d,J Z (i+1)] 38);have C2:=yz ((hC.low (B':=w.1.size+1+1) (by omega)).kept b);have E:∀y,a=ς y->y.block<m.1.size:=fun y e=>(hC.block y e).2;have p8:=(((yx A0).kept g).kept (an m (ξ #[σ a L.length j,J Z lim,J Z f,J Z A,J Z B,J Z C,J Z D,J Z d,J Z i] 38))).cell 8 _ rfl;have A2:=aW A0 g b;have R2:=aW R0 g b;have B2:=aB (aB B0 g) b;have T2:=yz (aq m [σ a L.length j,J Z lim,J Z f,J Z A,J Z B,J Z C,J Z D,J Z d,J Z (i+1)] 38);have aC:w.1.size+1+1<=m.1.size:=Nat.le_trans ai g.size;have ay:=yz (hD.kept (yx B2));clear g hC b A0 R0 B0 cC ai hD;have q:=bO (yx A2);have o:=bO (yx T2);have n:=iG (yx T2);by_cases u:f=0
 ·have l:¬(f≠0/\2<=cn):=fun h=>h.1 u;subst u;go_wp2_with fail;clear q o n p8;refine(yx cI _ (yx B2)).mono ?_;rintro e Y ⟨hO,g⟩;obtain⟨x,k,rfl,hv⟩:=yO hO;have b:=an Y (ξ #[σ x (dL L S).length k,J Z (gm L S),J Z (dn L S)] 192);have A4:=aW A2 g b;have H:=aW R2 g b;have C4:=aW C2 g b;have T4:=aW T2 g b;have U:=aB (aB B2 g) b;have I4:=yz (aq Y [σ x (dL L S).length k,J Z (gm L S),J Z (dn L S)] 192);have N4:=yz (hv.kept b);clear g hO hv b;have P:Hid (dn L S=0->χ prog 157 #[σ Q L.length c,σ br S.length dr,σ x (dL L S).length k] (Y.alloc (ξ #[σ x (dL L S).length k,J Z (gm L S),J Z (dn L S)] 192)) fun e w'=>e=ρ (κ #[J Z I,J Z K,J Z M,J Z N,J Z X])/\δ (Y.alloc (ξ #[σ x (dL L S).length k,J Z (gm L S),J Z (dn L S)] 192)).1.size (Y.alloc (ξ #[σ x (dL L S).length k,J Z (gm L S),J Z (dn L S)] 192)) w'):=yz (fun V=>yx cF V _ x k (yx U) (yx N4));clear N4;generalize (dL L S).length=nI at *;generalize dn L S=kd at *;generalize gm L S=kc at *;have T:=dT (yx I4);have q:=bO (yx A4);have o:=bO (yx T4);have n:=iG (yx T4);by_cases h3:kd=0
  ·have aa:=yz (yx P h3);clear P;subst h3;go_wp2_with fail;clear T q o n;refine(yx aa).mono ?_;rintro e w5 ⟨rfl,g⟩;have b:=an w5 (ξ #[J Z I,J Z K,J Z M,J Z N,J Z X] 132);have A5:=aW A4 g b;have R5:=aW H g b;have C5:=aW C4 g b;have T5:=aW T4 g b;have B5:=aB (aB U g) b;have U5:=yz (aq w5 [J Z I,J Z K,J Z M,J Z N,J Z X] 132);clear g b aa A4 H C4 T4 U I4;have T:=iZ (yx U5);have q:=bO (yx A5);have o:=bO (yx T5);have n:=iG (yx T5);by_cases h4:X=0
   ·have s:=yz (yx ag l h4);subst h4;go_wp2_with fail;clear T q o n;refine(mx lim _ A B C D d (i+1) I K M N a L.length j _).mono ?_;rintro e w6 ⟨rfl,g⟩;have O:=ap R5 g;have C6:=ap C5 g;have B6:=aB B5 g;clear g;have r:=ck (yx O);have p:=dU (yx O);go_wp2_with fail;clear r p;rw[yx s];refine ϊ (v:=κ #[σ a L.length j,J Z lim,J Z 1,J Z I,J Z K,J Z M,J Z N,J Z 0,J Z (i+1),J Z 0]) ?_ rfl ⟨⟨a,j,rfl,?_⟩,?_⟩
    ·refine fH _ _ (w.1.size+1) _ lim 1 I K M N 0 (i+1) 0 rfl (bJ (t:=52) (aZ (L:=[σ ν 0 0,J Z 0,J Z 0,J Z 0,J Z 0,J Z 0,J Z 0,J Z 0,J Z 0,J Z 0]) (t:=52) ?_ rfl _ lim 1 I K M N 0 (i+1) 0));exact yx O
    ·refine ax.low (B:=w.1.size+1+1) ?_ (by omega);iterate 10 (refine ax.far ?_ (ό (w.1.size+1)) _ _)
     exact yx C6
    ·iterate 10 (refine aF ?_ (Nat.le_succ _) _ _)
     exact yx B6
   ·skip;have r:=ck (yx R5);have p:=dU (yx R5);have s:Hid (eT ⟨L,lim,0,A,B,C,D,d,i⟩ S=⟨L,lim,0,A,B,C,D,d,i+1⟩):=yz (by rw[yx R l h4];rfl);go_wp2_with fail;clear q o n r p T;rw[yx s];refine ϊ (v:=κ #[σ a L.length j,J Z lim,J Z 0,J Z A,J Z B,J Z C,J Z D,J Z d,J Z (i+1),J Z 0]) ?_ rfl ⟨⟨a,j,rfl,?_⟩,?_⟩
    ·refine fH _ _ (w.1.size+1) _ lim 0 A B C D d (i+1) 0 rfl (bJ (t:=52) (aZ (L:=[σ ν 0 0,J Z 0,J Z 0,J Z 0,J Z 0,J Z 0,J Z 0,J Z 0,J Z 0,J Z 0]) (t:=52) ?_ rfl _ lim 0 A B C D d (i+1) 0));exact yx R5
    ·refine ax.low (B:=w.1.size+1+1) ?_ (by omega);iterate 10 (refine ax.far ?_ (ό (w.1.size+1)) _ _)
     exact yx C5
    ·iterate 10 (refine aF ?_ (Nat.le_succ _) _ _)
     exact yx B5
  ·have ae:=yx ah h3;clear P;have r:=ck (yx H);have p:=dU (yx H);have s:Hid (eT ⟨L,lim,0,A,B,C,D,d,i⟩ S=⟨L,lim,0,A,B,C,D,d,i+1⟩):=yz (by rw[yx R l ae];rfl);go_wp2_with fail;clear q o n r p T;rw[yx s];refine ϊ (v:=κ #[σ a L.length j,J Z lim,J Z 0,J Z A,J Z B,J Z C,J Z D,J Z d,J Z (i+1),J Z 0]) ?_ rfl ⟨⟨a,j,rfl,?_⟩,?_⟩
   ·refine fH _ _ (w.1.size+1) _ lim 0 A B C D d (i+1) 0 rfl (bJ (t:=52) (aZ (L:=[σ ν 0 0,J Z 0,J Z 0,J Z 0,J Z 0,J Z 0,J Z 0,J Z 0,J Z 0,J Z 0]) (t:=52) ?_ rfl _ lim 0 A B C D d (i+1) 0));exact yx H
   ·refine ax.low (B:=w.1.size+1+1) ?_ (by omega);iterate 10 (refine ax.far ?_ (ό (w.1.size+1)) _ _)
    exact yx C4
   ·iterate 10 (refine aF ?_ (Nat.le_succ _) _ _)
    exact yx U
 have af:=yz (yx cM u _ (yx B2));clear cM;go_wp2_with fail;clear q o n p8;refine(yx af).mono ?_;rintro e w3 ⟨⟨mv,rfl⟩,g⟩;have A3:=ap A2 g;have R3:=ap R2 g;have C3:=ap C2 g;have T3:=ap T2 g;have B3:=aB B2 g;clear g af A2 R2 C2 T2 B2;have q:=bO (yx A3);have o:=bO (yx T3);have n:=iG (yx T3);by_cases h2:2<=cn
 ·have s:=yz (yx al u h2);have aj:(2:Int)<=(cn:Int):=by omega
  go_wp2_with fail;clear q o n;refine(mx lim _ A B C D d (i+1) A B C D a L.length j _).mono ?_;rintro e Y ⟨rfl,g⟩;have H:=ap R3 g;have C4:=ap C3 g;have U:=aB B3 g;clear g;have r:=ck (yx H);have p:=dU (yx H);go_wp2_with fail;clear r p;rw[yx s];refine ϊ (v:=κ #[σ a L.length j,J Z lim,J Z 1,J Z A,J Z B,J Z C,J Z D,J Z 0,J Z (i+1),J Z 0]) ?_ rfl ⟨⟨a,j,rfl,?_⟩,?_⟩
  ·refine fH _ _ (w.1.size+1) _ lim 1 A B C D 0 (i+1) 0 rfl (bJ (t:=52) (aZ (L:=[σ ν 0 0,J Z 0,J Z 0,J Z 0,J Z 0,J Z 0,J Z 0,J Z 0,J Z 0,J Z 0]) (t:=52) ?_ rfl _ lim 1 A B C D 0 (i+1) 0));exact yx H
  ·refine ax.low (B:=w.1.size+1+1) ?_ (by omega);iterate 10 (refine ax.far ?_ (ό (w.1.size+1)) _ _)
   exact yx C4
  ·iterate 10 (refine aF ?_ (Nat.le_succ _) _ _)
   exact yx U
 have l:¬(f≠0/\2<=cn):=fun h=>h2 h.2;have aj:¬(2:Int)<=(cn:Int):=by omega
 go_wp2_with fail;clear q o n;refine(yx cI _ (yx B3)).mono ?_;rintro e Y ⟨hO,g⟩;obtain⟨x,k,rfl,hv⟩:=yO hO;have b:=an Y (ξ #[σ x (dL L S).length k,J Z (gm L S),J Z (dn L S)] 192);have A4:=aW A3 g b;have H:=aW R3 g b;have C4:=aW C3 g b;have T4:=aW T3 g b;have U:=aB (aB B3 g) b;have I4:=yz (aq Y [σ x (dL L S).length k,J Z (gm L S),J Z (dn L S)] 192);have N4:=yz (hv.kept b);clear g hO hv b;have P:Hid (dn L S=0->χ prog 157 #[σ Q L.length c,σ br S.length dr,σ x (dL L S).length k] (Y.alloc (ξ #[σ x (dL L S).length k,J Z (gm L S),J Z (dn L S)] 192)) fun e w'=>e=ρ (κ #[J Z I,J Z K,J Z M,J Z N,J Z X])/\δ (Y.alloc (ξ #[σ x (dL L S).length k,J Z (gm L S),J Z (dn L S)] 192)).1.size (Y.alloc (ξ #[σ x (dL L S).length k,J Z (gm L S),J Z (dn L S)] 192)) w'):=yz (fun V=>yx cF V _ x k (yx U) (yx N4));clear N4;generalize (dL L S).length=nI at *;generalize dn L S=kd at *;generalize gm L S=kc at *;have T:=dT (yx I4);have q:=bO (yx A4);have o:=bO (yx T4);have n:=iG (yx T4);by_cases h3:kd=0
 ·have aa:=yz (yx P h3);clear P;subst h3;go_wp2_with fail;clear T q o n;refine(yx aa).mono ?_;rintro e w5 ⟨rfl,g⟩;have b:=an w5 (ξ #[J Z I,J Z K,J Z M,J Z N,J Z X] 132);have A5:=aW A4 g b;have R5:=aW H g b;have C5:=aW C4 g b;have T5:=aW T4 g b;have B5:=aB (aB U g) b;have U5:=yz (aq w5 [J Z I,J Z K,J Z M,J Z N,J Z X] 132);clear g b aa A4 H C4 T4 U I4;have T:=iZ (yx U5);have q:=bO (yx A5);have o:=bO (yx T5);have n:=iG (yx T5);by_cases h4:X=0
  ·have s:=yz (yx ag l h4);subst h4;go_wp2_with fail;clear T q o n;refine(mx lim _ A B C D d (i+1) I K M N a L.length j _).mono ?_;rintro e w6 ⟨rfl,g⟩;have O:=ap R5 g;have C6:=ap C5 g;have B6:=aB B5 g;clear g;have r:=ck (yx O);have p:=dU (yx O);go_wp2_with fail;clear r p;rw[yx s];refine ϊ (v:=κ #[σ a L.length j,J Z lim,J Z 1,J Z I,J Z K,J Z M,J Z N,J Z 0,J Z (i+1),J Z 0]) ?_ rfl ⟨⟨a,j,rfl,?_⟩,?_⟩
   ·refine fH _ _ (w.1.size+1) _ lim 1 I K M N 0 (i+1) 0 rfl (bJ (t:=52) (aZ (L:=[σ ν 0 0,J Z 0,J Z 0,J Z 0,J Z 0,J Z 0,J Z 0,J Z 0,J Z 0,J Z 0]) (t:=52) ?_ rfl _ lim 1 I K M N 0 (i+1) 0));exact yx O
   ·refine ax.low (B:=w.1.size+1+1) ?_ (by omega);iterate 10 (refine ax.far ?_ (ό (w.1.size+1)) _ _)
    exact yx C6
   ·iterate 10 (refine aF ?_ (Nat.le_succ _) _ _)
    exact yx B6
  ·skip;have r:=ck (yx R5);have p:=dU (yx R5);by_cases ab:lim<d+1
   ·have s:Hid (eT ⟨L,lim,f,A,B,C,D,d,i⟩ S=⟨L,lim,0,0,0,0,0,0,i+1⟩):=yz (by rw[yx R l h4];unfold bS;dsimp only;rw[if_neg u,if_pos ab];rfl);go_wp2_with fail;clear q o n r p T;refine(kP lim 2 A B C D (d+1) (i+1) a L.length j _).mono ?_;rintro e w6 ⟨rfl,g⟩;have O:=yz ((((yx R5).other ⟨m.1.size,2,ν⟩ (J Z 2) (show w.1.size+1≠m.1.size by omega)).other ⟨m.1.size,7,ν⟩ (J Z (d+1)) (show w.1.size+1≠m.1.size by omega)).kept g);have T6:=yz ((((yx T5).set 2 (J Z 2)).set 7 (J Z (d+1))).kept g);have C6:=yz ((((yx C5).off (fun y e=>Nat.ne_of_lt (E y e)) 2 (J Z 2)).off (fun y e=>Nat.ne_of_lt (E y e)) 7 (J Z (d+1))).kept g);have B6:=yz (ak (aF (aF (yx B5) (show w.1.size<=m.1.size by omega) 2 (J Z 2)) (show w.1.size<=m.1.size by omega) 7 (J Z (d+1))) g);clear g;have o:=bO (yx T6);have n:=iG (yx T6);have r:=ck (yx O);have p:=dU (yx O);go_wp2_with fail;clear o n r p;rw[yx s];refine ϊ (v:=κ #[σ a L.length j,J Z lim,J Z 0,J Z 0,J Z 0,J Z 0,J Z 0,J Z 0,J Z (i+1),J Z 0]) ?_ rfl ⟨⟨a,j,rfl,?_⟩,?_⟩
    ·refine fH _ _ (w.1.size+1) _ lim 0 0 0 0 0 0 (i+1) 0 rfl (bJ (t:=52) (aZ (L:=[σ ν 0 0,J Z 0,J Z 0,J Z 0,J Z 0,J Z 0,J Z 0,J Z 0,J Z 0,J Z 0]) (t:=52) ?_ rfl _ lim 0 0 0 0 0 0 (i+1) 0));iterate 9 (refine Blk.other ?_ _ _ (show w.1.size+1≠m.1.size by omega))
     exact yx O
    ·refine ax.low (B:=w.1.size+1+1) ?_ (by omega);iterate 10 (refine ax.far ?_ (ό (w.1.size+1)) _ _)
     iterate 9 (refine ax.off ?_ (fun y e=>Nat.ne_of_lt (E y e)) _ _)
     exact yx C6
    ·iterate 10 (refine aF ?_ (Nat.le_succ _) _ _)
     iterate 9 (refine aF ?_ (show w.1.size<=m.1.size by omega) _ _)
     exact yx B6
   ·have s:Hid (eT ⟨L,lim,f,A,B,C,D,d,i⟩ S=⟨L,lim,2,A,B,C,D,d+1,i+1⟩):=yz (by rw[yx R l h4];unfold bS;dsimp only;rw[if_neg u,if_neg ab]);go_wp2_with fail;clear q o n r p T;rw[yx s];refine ϊ (v:=κ #[σ a L.length j,J Z lim,J Z 2,J Z A,J Z B,J Z C,J Z D,J Z (d+1),J Z (i+1),J Z 0]) ?_ rfl ⟨⟨a,j,rfl,?_⟩,?_⟩
    ·refine fH _ _ (w.1.size+1) _ lim 2 A B C D (d+1) (i+1) 0 rfl (bJ (t:=52) (aZ (L:=[σ ν 0 0,J Z 0,J Z 0,J Z 0,J Z 0,J Z 0,J Z 0,J Z 0,J Z 0,J Z 0]) (t:=52) ?_ rfl _ lim 2 A B C D (d+1) (i+1) 0));iterate 2 (refine Blk.other ?_ _ _ (show w.1.size+1≠m.1.size by omega))
     exact yx R5
    ·refine ax.low (B:=w.1.size+1+1) ?_ (by omega);iterate 10 (refine ax.far ?_ (ό (w.1.size+1)) _ _)
     iterate 2 (refine ax.off ?_ (fun y e=>Nat.ne_of_lt (E y e)) _ _)
     exact yx C5
    ·iterate 10 (refine aF ?_ (Nat.le_succ _) _ _)
     iterate 2 (refine aF ?_ (show w.1.size<=m.1.size by omega) _ _)
     exact yx B5
 ·have ae:=yx ah h3;clear P;have r:=ck (yx H);have p:=dU (yx H);by_cases ab:lim<d+1
  ·have s:Hid (eT ⟨L,lim,f,A,B,C,D,d,i⟩ S=⟨L,lim,0,0,0,0,0,0,i+1⟩):=yz (by rw[yx R l ae];unfold bS;dsimp only;rw[if_neg u,if_pos ab];rfl);go_wp2_with fail;clear q o n r p T;refine(kP lim 2 A B C D (d+1) (i+1) a L.length j _).mono ?_;rintro e w6 ⟨rfl,g⟩;have O:=yz ((((yx H).other ⟨m.1.size,2,ν⟩ (J Z 2) (show w.1.size+1≠m.1.size by omega)).other ⟨m.1.size,7,ν⟩ (J Z (d+1)) (show w.1.size+1≠m.1.size by omega)).kept g);have T6:=yz ((((yx T4).set 2 (J Z 2)).set 7 (J Z (d+1))).kept g);have C6:=yz ((((yx C4).off (fun y e=>Nat.ne_of_lt (E y e)) 2 (J Z 2)).off (fun y e=>Nat.ne_of_lt (E y e)) 7 (J Z (d+1))).kept g);have B6:=yz (ak (aF (aF (yx U) (show w.1.size<=m.1.size by omega) 2 (J Z 2)) (show w.1.size<=m.1.size by omega) 7 (J Z (d+1))) g);clear g;have o:=bO (yx T6);have n:=iG (yx T6);have r:=ck (yx O);have p:=dU (yx O);go_wp2_with fail;clear o n r p;rw[yx s];refine ϊ (v:=κ #[σ a L.length j,J Z lim,J Z 0,J Z 0,J Z 0,J Z 0,J Z 0,J Z 0,J Z (i+1),J Z 0]) ?_ rfl ⟨⟨a,j,rfl,?_⟩,?_⟩
   ·refine fH _ _ (w.1.size+1) _ lim 0 0 0 0 0 0 (i+1) 0 rfl (bJ (t:=52) (aZ (L:=[σ ν 0 0,J Z 0,J Z 0,J Z 0,J Z 0,J Z 0,J Z 0,J Z 0,J Z 0,J Z 0]) (t:=52) ?_ rfl _ lim 0 0 0 0 0 0 (i+1) 0));iterate 9 (refine Blk.other ?_ _ _ (show w.1.size+1≠m.1.size by omega))
    exact yx O
   ·refine ax.low (B:=w.1.size+1+1) ?_ (by omega);iterate 10 (refine ax.far ?_ (ό (w.1.size+1)) _ _)
    iterate 9 (refine ax.off ?_ (fun y e=>Nat.ne_of_lt (E y e)) _ _)
    exact yx C6
   ·iterate 10 (refine aF ?_ (Nat.le_succ _) _ _)
    iterate 9 (refine aF ?_ (show w.1.size<=m.1.size by omega) _ _)
    exact yx B6
  ·have s:Hid (eT ⟨L,lim,f,A,B,C,D,d,i⟩ S=⟨L,lim,2,A,B,C,D,d+1,i+1⟩):=yz (by rw[yx R l ae];unfold bS;dsimp only;rw[if_neg u,if_neg ab]);go_wp2_with fail;clear q o n r p T;rw[yx s];refine ϊ (v:=κ #[σ a L.length j,J Z lim,J Z 2,J Z A,J Z B,J Z C,J Z D,J Z (d+1),J Z (i+1),J Z 0]) ?_ rfl ⟨⟨a,j,rfl,?_⟩,?_⟩
   ·refine fH _ _ (w.1.size+1) _ lim 2 A B C D (d+1) (i+1) 0 rfl (bJ (t:=52) (aZ (L:=[σ ν 0 0,J Z 0,J Z 0,J Z 0,J Z 0,J Z 0,J Z 0,J Z 0,J Z 0,J Z 0]) (t:=52) ?_ rfl _ lim 2 A B C D (d+1) (i+1) 0));iterate 2 (refine Blk.other ?_ _ _ (show w.1.size+1≠m.1.size by omega))
    exact yx H
   ·refine ax.low (B:=w.1.size+1+1) ?_ (by omega);iterate 10 (refine ax.far ?_ (ό (w.1.size+1)) _ _)
    iterate 2 (refine ax.off ?_ (fun y e=>Nat.ne_of_lt (E y e)) _ _)
    exact yx C4
   ·iterate 10 (refine aF ?_ (Nat.le_succ _) _ _)
    iterate 2 (refine aF ?_ (show w.1.size<=m.1.size by omega) _ _)
    exact yx U
theorem gE(L:List St)(S:List D3)(lim d A B C D b g:Int)(p:Option η)(c:Nat)(N:Option η)(P:Nat)(w:ω)(hn:L.length<=1048576)(ag:S.length<=1048576)(hS:aO w p L L.length)(hD:bu w N S S.length)(hb:∀y,p=ς y->y.block<w.1.size)(hB:∀y,N=ς y->y.block<w.1.size)(ae:S.length<=P)(ac:P<=9223372036854775807):
  χ prog 93 #[κ #[σ p L.length c,J Z lim,J Z d,J Z A,J Z B,J Z C,J Z D,J Z b,J Z g],σ N S.length P] w fun e w'=>jy w' w.1.size (cx ⟨L,lim,d,A,B,C,D,b,g⟩ S) (eS ⟨L,lim,d,A,B,C,D,b,g⟩ S) e/\δ w.1.size w w':=by
 have M:=yz (aJ w (ξ #[σ p L.length c,J Z lim,J Z d,J Z A,J Z B,J Z C,J Z D,J Z b,J Z g] 38) (ξ #[σ ν 0 0,J Z 0,J Z 0,J Z 0,J Z 0,J Z 0,J Z 0,J Z 0,J Z 0,J Z 0] 52));have A0:=yz ((aq w [σ p L.length c,J Z lim,J Z d,J Z A,J Z B,J Z C,J Z D,J Z b,J Z g] 38).alloc (ξ #[σ ν 0 0,J Z 0,J Z 0,J Z 0,J Z 0,J Z 0,J Z 0,J Z 0,J Z 0,J Z 0] 52));have R0:=yz (by simpa using aq (w.alloc (ξ #[σ p L.length c,J Z lim,J Z d,J Z A,J Z B,J Z C,J Z D,J Z b,J Z g] 38)) [σ ν 0 0,J Z 0,J Z 0,J Z 0,J Z 0,J Z 0,J Z 0,J Z 0,J Z 0,J Z 0] 52:Blk ((w.alloc (ξ #[σ p L.length c,J Z lim,J Z d,J Z A,J Z B,J Z C,J Z D,J Z b,J Z g] 38)).alloc (ξ #[σ ν 0 0,J Z 0,J Z 0,J Z 0,J Z 0,J Z 0,J Z 0,J Z 0,J Z 0,J Z 0] 52)) (w.1.size+1) [σ ν 0 0,J Z 0,J Z 0,J Z 0,J Z 0,J Z 0,J Z 0,J Z 0,J Z 0,J Z 0] 52);have S0:=yz (hS.kept (yx M));have D0:=yz (hD.kept (yx M));have ah:w.1.size+1+1<=((w.alloc (ξ #[σ p L.length c,J Z lim,J Z d,J Z A,J Z B,J Z C,J Z D,J Z b,J Z g] 38)).alloc (ξ #[σ ν 0 0,J Z 0,J Z 0,J Z 0,J Z 0,J Z 0,J Z 0,J Z 0,J Z 0,J Z 0] 52)).1.size:=by simp
 clear hS hD;by_cases h:400<S.length
 ·have j:=yz (Co (t:=⟨L,lim,d,A,B,C,D,b,g⟩) h);have ab:(400:Int)<(S.length:Int):=by omega
  clear h;go_enter func93,ntmps93;go_wp2_with fail;refine(ee 2 _).mono ?_;rintro e wz ⟨rfl,f⟩;have k:=ap R0 f;have G:=aB M f;clear f;have x:=ck (yx k);have q:=dU (yx k);go_wp2_with fail;clear x q;refine ϊ (v:=κ #[σ ν 0 0,J Z 0,J Z 0,J Z 0,J Z 0,J Z 0,J Z 0,J Z 0,J Z 0,J Z 2]) ?_ rfl ⟨?_,?_⟩
  ·exact lQ _ _ (w.1.size+1) _ 0 0 0 0 0 0 0 0 2 rfl (bJ (aZ (yx k) rfl _ 0 0 0 0 0 0 0 0 2))
  ·rw[(yx j).1,(yx j).2];exact du _ _ _
  ·iterate 10 (refine aF ?_ (Nat.le_succ _) _ _)
   exact yx G
 have ab:¬(400:Int)<(S.length:Int):=by omega
 have cR:=yz (fh L lim d A B C D b g p c _ hn (yx S0));go_enter func93,ntmps93;go_wp2_with fail;refine(yx cR).mono ?_;rintro e w1 ⟨rfl,f⟩;have A1:=ap A0 f;have R1:=ap R0 f;have S1:=ap S0 f;have X:=ap D0 f;have V:=aB M f;have ai:=f.size;clear f cR A0 R0 S0 D0 M;cases E:aM ⟨L,lim,d,A,B,C,D,b,g⟩
 ·have j:=yz (nG (t:=⟨L,lim,d,A,B,C,D,b,g⟩) (S:=S) h (by rw[E];rfl));clear E;go_wp2_with fail;refine(ee 1 _).mono ?_;rintro e wz ⟨rfl,f⟩;have k:=ap R1 f;have G:=aB V f;clear f;have x:=ck (yx k);have q:=dU (yx k);go_wp2_with fail;clear x q;refine ϊ (v:=κ #[σ ν 0 0,J Z 0,J Z 0,J Z 0,J Z 0,J Z 0,J Z 0,J Z 0,J Z 0,J Z 1]) ?_ rfl ⟨?_,?_⟩
  ·exact lQ _ _ (w.1.size+1) _ 0 0 0 0 0 0 0 0 1 rfl (bJ (aZ (yx k) rfl _ 0 0 0 0 0 0 0 0 1))
  ·rw[(yx j).1,(yx j).2];exact du _ _ _
  ·iterate 10 (refine aF ?_ (Nat.le_succ _) _ _)
   exact yx G
 go_wp2_with fail;refine(ij S N P _ ag (yx X)).mono ?_;rintro e w2 ⟨rfl,f⟩;have U:=ap A1 f;have T:=ap R1 f;have S2:=ap S1 f;have D2:=ap X f;have R:=aB V f;have aj:=f.size;clear f A1 R1 S1 X V;cases K:aQ S
 ·have j:=yz (nG (t:=⟨L,lim,d,A,B,C,D,b,g⟩) (S:=S) h (by rw[K];simp));clear E K;go_wp2_with fail;refine(ee 1 _).mono ?_;rintro e wz ⟨rfl,f⟩;have k:=ap T f;have G:=aB R f;clear f;have x:=ck (yx k);have q:=dU (yx k);go_wp2_with fail;clear x q;refine ϊ (v:=κ #[σ ν 0 0,J Z 0,J Z 0,J Z 0,J Z 0,J Z 0,J Z 0,J Z 0,J Z 0,J Z 1]) ?_ rfl ⟨?_,?_⟩
  ·exact lQ _ _ (w.1.size+1) _ 0 0 0 0 0 0 0 0 1 rfl (bJ (aZ (yx k) rfl _ 0 0 0 0 0 0 0 0 1))
  ·rw[(yx j).1,(yx j).2];exact du _ _ _
  ·iterate 10 (refine aF ?_ (Nat.le_succ _) _ _)
   exact yx G
 obtain⟨u,r,s,m,n⟩:=sV E;dsimp only at u r s m n;by_cases hf:g=1000000
 ·have j:=yz (yJ (t:=⟨L,lim,d,A,B,C,D,b,g⟩) (S:=S) h E K hf);have af:(1000000:Int)<=g:=by omega
  clear E K u r s m n;have q0:=bO (yx U);go_wp2_with fail;clear q0;refine(ee 9 _).mono ?_;rintro e wz ⟨rfl,f⟩;have k:=ap T f;have G:=aB R f;clear f;have x:=ck (yx k);have q:=dU (yx k);go_wp2_with fail;clear x q;refine ϊ (v:=κ #[σ ν 0 0,J Z 0,J Z 0,J Z 0,J Z 0,J Z 0,J Z 0,J Z 0,J Z 0,J Z 9]) ?_ rfl ⟨?_,?_⟩
  ·exact lQ _ _ (w.1.size+1) _ 0 0 0 0 0 0 0 0 9 rfl (bJ (aZ (yx k) rfl _ 0 0 0 0 0 0 0 0 9))
  ·rw[(yx j).1,(yx j).2];exact du _ _ _
  ·iterate 10 (refine aF ?_ (Nat.le_succ _) _ _)
   exact yx G
 have j:=yz (Cp (t:=⟨L,lim,d,A,B,C,D,b,g⟩) (S:=S) h E K hf);have af:¬(1000000:Int)<=g:=by omega
 have cK:=yz (Ci L S lim d A B C D b g p c N P w2 hn ae ac (yx S2) (yx D2) (fun y e=>by have:=hb y e;omega) (fun y e=>by have:=hB y e;omega) u K r s m.1 m.2 n.1 n.2);obtain⟨lr,Q⟩:∃z,eT ⟨L,lim,d,A,B,C,D,b,g⟩ S=z:=⟨_,rfl⟩
 have Y:=yz (Aj ⟨L,lim,d,A,B,C,D,b,g⟩ S);rw[Q]at j Y cK;obtain⟨L2,o,l,A2',F,W,H,i,I⟩:=lr;dsimp only at Y;clear E K Q u r s m n hf;have q0:=bO (yx U);go_wp2_with fail;clear q0;refine(yx cK).mono ?_;rintro e w3 ⟨⟨a,O,he,hC⟩,f⟩;dsimp only at he hC;have aa:L2=L:=yx Y;subst aa;subst he;have C5:=yz (hC.low (B':=w.1.size+1+1) (by omega));have R5:=ap T f;have B5:=aB R f;clear f hC T R U S2 D2 cK;have x:=ck (yx R5);have q:=dU (yx R5);go_wp2_with fail;clear x q;refine ϊ (v:=κ #[σ a L2.length O,J Z o,J Z l,J Z A2',J Z F,J Z W,J Z H,J Z i,J Z I,J Z 0]) ?_ rfl ⟨?_,?_⟩
 ·exact lQ _ _ (w.1.size+1) _ o l A2' F W H i I 0 rfl (bJ (aZ (yx R5) rfl _ o l A2' F W H i I 0))
 ·rw[(yx j).1,(yx j).2];refine⟨a,O,rfl,?_⟩;refine ax.low (B:=w.1.size+1+1) ?_ (by omega);iterate 10 (refine ax.far ?_ (ό (w.1.size+1)) _ _)
  exact yx C5
 ·iterate 10 (refine aF ?_ (Nat.le_succ _) _ _)
  exact yx B5
section
def eM(t:Tk)(c:Cm):Tk:=if bA c=θ then (if c.kind=1 then fJ t else if c.kind=2 then fy t c.A c.B c.C c.D else if c.kind=3 then cx t c.S else cx t (iK (bq c.wd c.ht c.px c.lv c.fo))) else dW
def fj(t:Tk)(c:Cm):Int:=if bA c=θ then (if c.kind=1 then gv t else if c.kind=2 then iL t c.A c.B c.C c.D else if c.kind=3 then eS t c.S else eS t (iK (bq c.wd c.ht c.px c.lv c.fo))) else 1
variable {cs:List μ} {b b':Nat} {t:TypeId} {w:ω}
theorem mG{t:Tk}{c:Cm}(h:bA c=θ)(a:c.kind=1):eM t c=fJ t/\fj t c=gv t:=by unfold eM fj;rw[if_pos h,if_pos a,if_pos h,if_pos a];exact⟨rfl,rfl⟩
theorem li{t:Tk}{c:Cm}(h:bA c=θ)(a:c.kind=2):eM t c=fy t c.A c.B c.C c.D/\fj t c=iL t c.A c.B c.C c.D:=by
 unfold eM fj;rw[if_pos h,if_neg (by omega),if_pos a,if_pos h,if_neg (by omega),if_pos a];exact⟨rfl,rfl⟩
theorem lj{t:Tk}{c:Cm}(h:bA c=θ)(a:c.kind=3):eM t c=cx t c.S/\fj t c=eS t c.S:=by
 unfold eM fj;rw[if_pos h,if_neg (by omega),if_neg (by omega),if_pos a,if_pos h,if_neg (by omega),if_neg (by omega),if_pos a];exact⟨rfl,rfl⟩
theorem lm{t:Tk}{c:Cm}(h:bA c=θ)(a:c.kind=4):eM t c=cx t (iK (bq c.wd c.ht c.px c.lv c.fo))/\fj t c=eS t (iK (bq c.wd c.ht c.px c.lv c.fo)):=by
 unfold eM fj;rw[if_pos h,if_neg (by omega),if_neg (by omega),if_neg (by omega),if_pos h,if_neg (by omega),if_neg (by omega),if_neg (by omega)];exact⟨rfl,rfl⟩
theorem uf{t:Tk}{c:Cm}(h:bA c=φ):eM t c=dW/\fj t c=1:=by
 unfold eM fj;rw[if_neg (by rw[h];decide),if_neg (by rw[h];decide)];exact⟨rfl,rfl⟩
theorem Dg{L:List D3}(h:aQ L=θ):L.length<=6:=(bN h).1
theorem lR{c:Cm}(h:bA c=θ):c.kind=1\/c.kind=2\/c.kind=3\/c.kind=4:=by
 by_cases a:c.kind=1
 ·exact .inl a
 by_cases b:c.kind=2
 ·exact .inr (.inl b)
 by_cases d:c.kind=3
 ·exact .inr (.inr (.inl d))
 by_cases e:c.kind=4
 ·exact .inr (.inr (.inr e))
 ·rw[Fw a b d e]at h;cases h
theorem rD(R:List D3):(iK R).length<=6:=(tY R R.length).1
theorem JN{t:Tk}{c:Cm}(h:aM t=φ):eM t c=dW/\fj t c=1:=by
 cases a:bA c
 ·exact uf a
 have d:∀S:List D3,S.length<=400->cx t S=dW/\eS t S=1:=fun S e=>nG (by omega) (by rw[h];rfl);rcases lR a with b | b | b | b
 ·rw[(mG a b).1,(mG a b).2];unfold fJ gv;rw[if_neg (by rw[h];decide),if_neg (by rw[h];decide)];exact⟨rfl,rfl⟩
 ·rw[(li a b).1,(li a b).2];unfold fy iL iM;rw[if_neg (by rw[h];simp),if_neg (by rw[h];simp)];exact⟨rfl,rfl⟩
 ·rw[(lj a b).1,(lj a b).2];refine d _ ?_;rw[oR b]at a;simp only[ύ]at a
  have:=Dg a.1.2;omega
 ·rw[(lm a b).1,(lm a b).2];refine d _ ?_;have:=rD (bq c.wd c.ht c.px c.lv c.fo);omega
theorem AN(f d:Int)(s:ByteArray)(e c:Int):EI (bq f d s e c):=by
 intro j g
 have a:vA (bq f d s e c) j∈bq f d s e c:=by
  unfold vA;rw[ώ,Ϗ g];exact List.getElem_mem g
 generalize vA (bq f d s e c) j=v at a;unfold bq at a;split at a
 ·unfold eF at a;rw[List.mem_map]at a;obtain⟨b,h,rfl⟩:=a;have:=(List.mem_filter.1 h).2;unfold sP at this;rw[ύ]at this;exact(gW this.2).1
 ·cases a
theorem Blk.offO(h:Blk w b cs t)(a:b≠b')(o:Nat)(x:μ):Blk (w.setCell ⟨b',o,ν⟩ x) b cs t:=by
 unfold Blk at h ⊢;rw[Below.heap_setCell w ⟨b',o,ν⟩ x b a];exact h
theorem jS(h:Blk w b cs t)(a:b≠b')(c d e f g i j k l m:μ):Blk ((((((((((w.setCell ⟨b',0,ν⟩ c).setCell ⟨b',1,ν⟩ d).setCell ⟨b',2,ν⟩ e).setCell ⟨b',3,ν⟩ f).setCell ⟨b',4,ν⟩ g).setCell ⟨b',5,ν⟩ i).setCell ⟨b',6,ν⟩ j).setCell ⟨b',7,ν⟩ k).setCell ⟨b',8,ν⟩ l).setCell ⟨b',9,ν⟩ m) b cs t:=
 (((((((((h.offO a 0 c).offO a 1 d).offO a 2 e).offO a 3 f).offO a 4 g).offO a 5 i).offO a 6 j).offO a 7 k).offO a 8 l).offO a 9 m
theorem up(T:Array μ)(X:ω)(b:Nat)(v:μ)(lim d A B C D a e c:Int)(f:T.getD 4 undef=π (ς ⟨b,0,ν⟩))(h:TkO X b v lim d A B C D a e c):(results f54 T).run prog X=.ok (κ #[v,J Z lim,J Z d,J Z A,J Z B,J Z C,J Z D,J Z a,J Z e,J Z c]) X:=by
 obtain⟨⟨g,i,j,k,l,m,n,o,p⟩,q⟩:=h;simp only[Array.getD_eq_getD_getElem?]at f;simp[results,results54,go_sem,f,g,i,j,k,l,m,n,o,p,q]
theorem He(L:List St)(lim b A B C D a g:Int)(j:Option η)(c:Nat)(S:List D3)(m n o p s q r l:Int)(i:ByteArray)(k:Option η)(u:Nat)(w:ω)(hn:L.length<=1048576)(hS:aO w j L L.length)(hb:∀y,j=ς y->y.block<w.1.size)(ae:S.length<=1048576)(ab:S.length<=u)(aa:u<=9223372036854775807)(hD:bu w k S S.length)(hB:∀y,k=ς y->y.block<w.1.size)(U:bA ⟨1,m,n,o,p,S,s,q,i,r,l⟩=θ)(hs:i.size<=maxLen):
  χ prog 54 #[κ #[σ j L.length c,J Z lim,J Z b,J Z A,J Z B,J Z C,J Z D,J Z a,J Z g],κ #[J Z 1,J Z m,J Z n,J Z o,J Z p,σ k S.length u,J Z s,J Z q,τ i,J Z r,J Z l]] w fun e w'=>jy w' w.1.size (eM ⟨L,lim,b,A,B,C,D,a,g⟩ ⟨1,m,n,o,p,S,s,q,i,r,l⟩) (fj ⟨L,lim,b,A,B,C,D,a,g⟩ ⟨1,m,n,o,p,S,s,q,i,r,l⟩) e/\δ w.1.size w w':=by
 rw[(mG U rfl).1,(mG U rfl).2];try dsimp only
 clear U;have I:=yz (bT w (ξ #[σ j L.length c,J Z lim,J Z b,J Z A,J Z B,J Z C,J Z D,J Z a,J Z g] 38) (ξ #[J Z 1,J Z m,J Z n,J Z o,J Z p,σ k S.length u,J Z s,J Z q,τ i,J Z r,J Z l] 29) (ξ #[σ ν 0 0,J Z 0,J Z 0,J Z 0,J Z 0,J Z 0,J Z 0,J Z 0,J Z 0,J Z 0] 52));have X:=yz (((aq w [σ j L.length c,J Z lim,J Z b,J Z A,J Z B,J Z C,J Z D,J Z a,J Z g] 38).alloc (ξ #[J Z 1,J Z m,J Z n,J Z o,J Z p,σ k S.length u,J Z s,J Z q,τ i,J Z r,J Z l] 29)).alloc (ξ #[σ ν 0 0,J Z 0,J Z 0,J Z 0,J Z 0,J Z 0,J Z 0,J Z 0,J Z 0,J Z 0] 52));have Y:=yz ((by simpa using aq (w.alloc (ξ #[σ j L.length c,J Z lim,J Z b,J Z A,J Z B,J Z C,J Z D,J Z a,J Z g] 38)) [J Z 1,J Z m,J Z n,J Z o,J Z p,σ k S.length u,J Z s,J Z q,τ i,J Z r,J Z l] 29:Blk ((w.alloc (ξ #[σ j L.length c,J Z lim,J Z b,J Z A,J Z B,J Z C,J Z D,J Z a,J Z g] 38)).alloc (ξ #[J Z 1,J Z m,J Z n,J Z o,J Z p,σ k S.length u,J Z s,J Z q,τ i,J Z r,J Z l] 29)) (w.1.size+1) [J Z 1,J Z m,J Z n,J Z o,J Z p,σ k S.length u,J Z s,J Z q,τ i,J Z r,J Z l] 29).alloc (ξ #[σ ν 0 0,J Z 0,J Z 0,J Z 0,J Z 0,J Z 0,J Z 0,J Z 0,J Z 0,J Z 0] 52));have R0:=yz (by simpa using aq ((w.alloc (ξ #[σ j L.length c,J Z lim,J Z b,J Z A,J Z B,J Z C,J Z D,J Z a,J Z g] 38)).alloc (ξ #[J Z 1,J Z m,J Z n,J Z o,J Z p,σ k S.length u,J Z s,J Z q,τ i,J Z r,J Z l] 29)) [σ ν 0 0,J Z 0,J Z 0,J Z 0,J Z 0,J Z 0,J Z 0,J Z 0,J Z 0,J Z 0] 52:Blk (((w.alloc (ξ #[σ j L.length c,J Z lim,J Z b,J Z A,J Z B,J Z C,J Z D,J Z a,J Z g] 38)).alloc (ξ #[J Z 1,J Z m,J Z n,J Z o,J Z p,σ k S.length u,J Z s,J Z q,τ i,J Z r,J Z l] 29)).alloc (ξ #[σ ν 0 0,J Z 0,J Z 0,J Z 0,J Z 0,J Z 0,J Z 0,J Z 0,J Z 0,J Z 0] 52)) (w.1.size+1+1) [σ ν 0 0,J Z 0,J Z 0,J Z 0,J Z 0,J Z 0,J Z 0,J Z 0,J Z 0,J Z 0] 52);have ac:w.1.size+1+1+1<=(((w.alloc (ξ #[σ j L.length c,J Z lim,J Z b,J Z A,J Z B,J Z C,J Z D,J Z a,J Z g] 38)).alloc (ξ #[J Z 1,J Z m,J Z n,J Z o,J Z p,σ k S.length u,J Z s,J Z q,τ i,J Z r,J Z l] 29)).alloc (ξ #[σ ν 0 0,J Z 0,J Z 0,J Z 0,J Z 0,J Z 0,J Z 0,J Z 0,J Z 0,J Z 0] 52)).1.size:=by simp
 have T:∀W:ω,δ w.1.size w W->∀y,j=ς y->y.block<W.1.size:=fun W h y e=>ϋ (hb y e) h.size;have Q:∀W:ω,δ w.1.size w W->∀y,k=ς y->y.block<W.1.size:=fun W h y e=>ϋ (hB y e) h.size;have P:=yz (fun (W:ω) (h:δ w.1.size w W)=>xK L lim b A B C D a g j c W hn (hS.kept h));obtain⟨t2,G⟩:∃z,fJ ⟨L,lim,b,A,B,C,D,a,g⟩=z:=⟨_,rfl⟩
 obtain⟨t,F⟩:∃z,gv ⟨L,lim,b,A,B,C,D,a,g⟩=z:=⟨_,rfl⟩
 rw[G,F]at P ⊢;obtain⟨L2,x,f,H,K,M,N,d,E⟩:=t2;clear G F hS hD hb hB T Q;go_enter func54,ntmps54;have k0:=(yx Y).cell 0 _ rfl;have q0:=bO (yx X);go_wp2_with fail;clear q0 k0;refine(yx P _ (yx I)).mono ?_;rintro e w3 ⟨⟨a2,c2,rfl,R⟩,V⟩;dsimp only at R;have C5:=yz (R.low (B':=w.1.size+1+1+1) (by omega));have O:=ap R0 V;have B5:=aB I V;clear V R R0 I X Y P;have r0:=ck (yx O);have e0:=dU (yx O);go_wp2_with fail;clear r0 e0;refine ϊ (v:=κ #[σ a2 L2.length c2,J Z x,J Z f,J Z H,J Z K,J Z M,J Z N,J Z d,J Z E,J Z t]) ?_ rfl ⟨?_,?_⟩
 ·exact up _ _ (w.1.size+1+1) _ x f H K M N d E t rfl (bJ (aZ (yx O) rfl _ x f H K M N d E t))
 ·refine⟨a2,c2,rfl,?_⟩;refine ax.low (B:=w.1.size+1+1+1) ?_ (by omega);iterate 10 (refine ax.far ?_ (ό (w.1.size+1+1)) _ _)
  exact yx C5
 ·iterate 10 (refine aF ?_ (Nat.le_add_right _ 2) _ _)
  exact yx B5
theorem Hf(L:List St)(lim b A B C D a l:Int)(n:Option η)(c:Nat)(S:List D3)(f g i j s q r p:Int)(m:ByteArray)(o:Option η)(u:Nat)(w:ω)(hn:L.length<=1048576)(hS:aO w n L L.length)(hb:∀y,n=ς y->y.block<w.1.size)(ae:S.length<=1048576)(ab:S.length<=u)(aa:u<=9223372036854775807)(hD:bu w o S S.length)(hB:∀y,o=ς y->y.block<w.1.size)(V:bA ⟨2,f,g,i,j,S,s,q,m,r,p⟩=θ)(hs:m.size<=maxLen):
  χ prog 54 #[κ #[σ n L.length c,J Z lim,J Z b,J Z A,J Z B,J Z C,J Z D,J Z a,J Z l],κ #[J Z 2,J Z f,J Z g,J Z i,J Z j,σ o S.length u,J Z s,J Z q,τ m,J Z r,J Z p]] w fun e w'=>jy w' w.1.size (eM ⟨L,lim,b,A,B,C,D,a,l⟩ ⟨2,f,g,i,j,S,s,q,m,r,p⟩) (fj ⟨L,lim,b,A,B,C,D,a,l⟩ ⟨2,f,g,i,j,S,s,q,m,r,p⟩) e/\δ w.1.size w w':=by
 rw[(li V rfl).1,(li V rfl).2];try dsimp only
 clear V;have K:=yz (bT w (ξ #[σ n L.length c,J Z lim,J Z b,J Z A,J Z B,J Z C,J Z D,J Z a,J Z l] 38) (ξ #[J Z 2,J Z f,J Z g,J Z i,J Z j,σ o S.length u,J Z s,J Z q,τ m,J Z r,J Z p] 29) (ξ #[σ ν 0 0,J Z 0,J Z 0,J Z 0,J Z 0,J Z 0,J Z 0,J Z 0,J Z 0,J Z 0] 52));have Y:=yz (((aq w [σ n L.length c,J Z lim,J Z b,J Z A,J Z B,J Z C,J Z D,J Z a,J Z l] 38).alloc (ξ #[J Z 2,J Z f,J Z g,J Z i,J Z j,σ o S.length u,J Z s,J Z q,τ m,J Z r,J Z p] 29)).alloc (ξ #[σ ν 0 0,J Z 0,J Z 0,J Z 0,J Z 0,J Z 0,J Z 0,J Z 0,J Z 0,J Z 0] 52));have F:=yz ((by simpa using aq (w.alloc (ξ #[σ n L.length c,J Z lim,J Z b,J Z A,J Z B,J Z C,J Z D,J Z a,J Z l] 38)) [J Z 2,J Z f,J Z g,J Z i,J Z j,σ o S.length u,J Z s,J Z q,τ m,J Z r,J Z p] 29:Blk ((w.alloc (ξ #[σ n L.length c,J Z lim,J Z b,J Z A,J Z B,J Z C,J Z D,J Z a,J Z l] 38)).alloc (ξ #[J Z 2,J Z f,J Z g,J Z i,J Z j,σ o S.length u,J Z s,J Z q,τ m,J Z r,J Z p] 29)) (w.1.size+1) [J Z 2,J Z f,J Z g,J Z i,J Z j,σ o S.length u,J Z s,J Z q,τ m,J Z r,J Z p] 29).alloc (ξ #[σ ν 0 0,J Z 0,J Z 0,J Z 0,J Z 0,J Z 0,J Z 0,J Z 0,J Z 0,J Z 0] 52));have R0:=yz (by simpa using aq ((w.alloc (ξ #[σ n L.length c,J Z lim,J Z b,J Z A,J Z B,J Z C,J Z D,J Z a,J Z l] 38)).alloc (ξ #[J Z 2,J Z f,J Z g,J Z i,J Z j,σ o S.length u,J Z s,J Z q,τ m,J Z r,J Z p] 29)) [σ ν 0 0,J Z 0,J Z 0,J Z 0,J Z 0,J Z 0,J Z 0,J Z 0,J Z 0,J Z 0] 52:Blk (((w.alloc (ξ #[σ n L.length c,J Z lim,J Z b,J Z A,J Z B,J Z C,J Z D,J Z a,J Z l] 38)).alloc (ξ #[J Z 2,J Z f,J Z g,J Z i,J Z j,σ o S.length u,J Z s,J Z q,τ m,J Z r,J Z p] 29)).alloc (ξ #[σ ν 0 0,J Z 0,J Z 0,J Z 0,J Z 0,J Z 0,J Z 0,J Z 0,J Z 0,J Z 0] 52)) (w.1.size+1+1) [σ ν 0 0,J Z 0,J Z 0,J Z 0,J Z 0,J Z 0,J Z 0,J Z 0,J Z 0,J Z 0] 52);have ac:w.1.size+1+1+1<=(((w.alloc (ξ #[σ n L.length c,J Z lim,J Z b,J Z A,J Z B,J Z C,J Z D,J Z a,J Z l] 38)).alloc (ξ #[J Z 2,J Z f,J Z g,J Z i,J Z j,σ o S.length u,J Z s,J Z q,τ m,J Z r,J Z p] 29)).alloc (ξ #[σ ν 0 0,J Z 0,J Z 0,J Z 0,J Z 0,J Z 0,J Z 0,J Z 0,J Z 0,J Z 0] 52)).1.size:=by simp
 have U:∀W:ω,δ w.1.size w W->∀y,n=ς y->y.block<W.1.size:=fun W h y e=>ϋ (hb y e) h.size;have R:∀W:ω,δ w.1.size w W->∀y,o=ς y->y.block<W.1.size:=fun W h y e=>ϋ (hB y e) h.size;have Q:=yz (fun (W:ω) (h:δ w.1.size w W)=>qX L lim b A B C D a l f g i j n c W hn (hS.kept h));obtain⟨t2,H⟩:∃z,fy ⟨L,lim,b,A,B,C,D,a,l⟩ f g i j=z:=⟨_,rfl⟩
 obtain⟨t,G⟩:∃z,iL ⟨L,lim,b,A,B,C,D,a,l⟩ f g i j=z:=⟨_,rfl⟩
 rw[H,G]at Q ⊢;obtain⟨L2,x,k,I,M,N,O,d,E⟩:=t2;clear H G hS hD hb hB U R;go_enter func54,ntmps54;have k0:=(yx F).cell 0 _ rfl;have q0:=bO (yx Y);have k1:=(yx F).cell 1 _ rfl;have k2:=(yx F).cell 2 _ rfl;have k3:=(yx F).cell 3 _ rfl;have k4:=(yx F).cell 4 _ rfl;go_wp2_with fail;clear q0 k0 k1 k2 k3 k4;refine(yx Q _ (yx K)).mono ?_;rintro e w3 ⟨⟨a2,c2,rfl,T⟩,X⟩;dsimp only at T;have C5:=yz (T.low (B':=w.1.size+1+1+1) (by omega));have P:=ap R0 X;have B5:=aB K X;clear X T R0 K Y F Q;have r0:=ck (yx P);have e0:=dU (yx P);go_wp2_with fail;clear r0 e0;refine ϊ (v:=κ #[σ a2 L2.length c2,J Z x,J Z k,J Z I,J Z M,J Z N,J Z O,J Z d,J Z E,J Z t]) ?_ rfl ⟨?_,?_⟩
 ·exact up _ _ (w.1.size+1+1) _ x k I M N O d E t rfl (bJ (aZ (yx P) rfl _ x k I M N O d E t))
 ·refine⟨a2,c2,rfl,?_⟩;refine ax.low (B:=w.1.size+1+1+1) ?_ (by omega);iterate 10 (refine ax.far ?_ (ό (w.1.size+1+1)) _ _)
  exact yx C5
 ·iterate 10 (refine aF ?_ (Nat.le_add_right _ 2) _ _)
  exact yx B5
theorem Hg(L:List St)(lim b A B C D a i:Int)(k:Option η)(c:Nat)(S:List D3)(n o p q t r s m:Int)(j:ByteArray)(g:Option η)(l:Nat)(w:ω)(hn:L.length<=1048576)(hS:aO w k L L.length)(hb:∀y,k=ς y->y.block<w.1.size)(aa:S.length<=1048576)(Y:S.length<=l)(X:l<=9223372036854775807)(hD:bu w g S S.length)(hB:∀y,g=ς y->y.block<w.1.size)(V:bA ⟨3,n,o,p,q,S,t,r,j,s,m⟩=θ)(hs:j.size<=maxLen):
  χ prog 54 #[κ #[σ k L.length c,J Z lim,J Z b,J Z A,J Z B,J Z C,J Z D,J Z a,J Z i],κ #[J Z 3,J Z n,J Z o,J Z p,J Z q,σ g S.length l,J Z t,J Z r,τ j,J Z s,J Z m]] w fun e w'=>jy w' w.1.size (eM ⟨L,lim,b,A,B,C,D,a,i⟩ ⟨3,n,o,p,q,S,t,r,j,s,m⟩) (fj ⟨L,lim,b,A,B,C,D,a,i⟩ ⟨3,n,o,p,q,S,t,r,j,s,m⟩) e/\δ w.1.size w w':=by
 rw[(lj V rfl).1,(lj V rfl).2];try dsimp only
 clear V;have M:=yz (bT w (ξ #[σ k L.length c,J Z lim,J Z b,J Z A,J Z B,J Z C,J Z D,J Z a,J Z i] 38) (ξ #[J Z 3,J Z n,J Z o,J Z p,J Z q,σ g S.length l,J Z t,J Z r,τ j,J Z s,J Z m] 29) (ξ #[σ ν 0 0,J Z 0,J Z 0,J Z 0,J Z 0,J Z 0,J Z 0,J Z 0,J Z 0,J Z 0] 52));have A0:=yz (((aq w [σ k L.length c,J Z lim,J Z b,J Z A,J Z B,J Z C,J Z D,J Z a,J Z i] 38).alloc (ξ #[J Z 3,J Z n,J Z o,J Z p,J Z q,σ g S.length l,J Z t,J Z r,τ j,J Z s,J Z m] 29)).alloc (ξ #[σ ν 0 0,J Z 0,J Z 0,J Z 0,J Z 0,J Z 0,J Z 0,J Z 0,J Z 0,J Z 0] 52));have Q:=yz ((by simpa using aq (w.alloc (ξ #[σ k L.length c,J Z lim,J Z b,J Z A,J Z B,J Z C,J Z D,J Z a,J Z i] 38)) [J Z 3,J Z n,J Z o,J Z p,J Z q,σ g S.length l,J Z t,J Z r,τ j,J Z s,J Z m] 29:Blk ((w.alloc (ξ #[σ k L.length c,J Z lim,J Z b,J Z A,J Z B,J Z C,J Z D,J Z a,J Z i] 38)).alloc (ξ #[J Z 3,J Z n,J Z o,J Z p,J Z q,σ g S.length l,J Z t,J Z r,τ j,J Z s,J Z m] 29)) (w.1.size+1) [J Z 3,J Z n,J Z o,J Z p,J Z q,σ g S.length l,J Z t,J Z r,τ j,J Z s,J Z m] 29).alloc (ξ #[σ ν 0 0,J Z 0,J Z 0,J Z 0,J Z 0,J Z 0,J Z 0,J Z 0,J Z 0,J Z 0] 52));have R0:=yz (by simpa using aq ((w.alloc (ξ #[σ k L.length c,J Z lim,J Z b,J Z A,J Z B,J Z C,J Z D,J Z a,J Z i] 38)).alloc (ξ #[J Z 3,J Z n,J Z o,J Z p,J Z q,σ g S.length l,J Z t,J Z r,τ j,J Z s,J Z m] 29)) [σ ν 0 0,J Z 0,J Z 0,J Z 0,J Z 0,J Z 0,J Z 0,J Z 0,J Z 0,J Z 0] 52:Blk (((w.alloc (ξ #[σ k L.length c,J Z lim,J Z b,J Z A,J Z B,J Z C,J Z D,J Z a,J Z i] 38)).alloc (ξ #[J Z 3,J Z n,J Z o,J Z p,J Z q,σ g S.length l,J Z t,J Z r,τ j,J Z s,J Z m] 29)).alloc (ξ #[σ ν 0 0,J Z 0,J Z 0,J Z 0,J Z 0,J Z 0,J Z 0,J Z 0,J Z 0,J Z 0] 52)) (w.1.size+1+1) [σ ν 0 0,J Z 0,J Z 0,J Z 0,J Z 0,J Z 0,J Z 0,J Z 0,J Z 0,J Z 0] 52);have ab:w.1.size+1+1+1<=(((w.alloc (ξ #[σ k L.length c,J Z lim,J Z b,J Z A,J Z B,J Z C,J Z D,J Z a,J Z i] 38)).alloc (ξ #[J Z 3,J Z n,J Z o,J Z p,J Z q,σ g S.length l,J Z t,J Z r,τ j,J Z s,J Z m] 29)).alloc (ξ #[σ ν 0 0,J Z 0,J Z 0,J Z 0,J Z 0,J Z 0,J Z 0,J Z 0,J Z 0,J Z 0] 52)).1.size:=by simp
 have G:∀W:ω,δ w.1.size w W->∀y,k=ς y->y.block<W.1.size:=fun W h y e=>ϋ (hb y e) h.size;have F:∀W:ω,δ w.1.size w W->∀y,g=ς y->y.block<W.1.size:=fun W h y e=>ϋ (hB y e) h.size;have T:=yz (fun (W:ω) (h:δ w.1.size w W)=>gE L S lim b A B C D a i k c g l W hn aa (hS.kept h) (hD.kept h) (G W h) (F W h) Y X);obtain⟨t2,I⟩:∃z,cx ⟨L,lim,b,A,B,C,D,a,i⟩ S=z:=⟨_,rfl⟩
 obtain⟨u,H⟩:∃z,eS ⟨L,lim,b,A,B,C,D,a,i⟩ S=z:=⟨_,rfl⟩
 rw[I,H]at T ⊢;obtain⟨L2,x,f,K,N,O,P,d,E⟩:=t2;clear I H hS hD hb hB G F;go_enter func54,ntmps54;have k0:=(yx Q).cell 0 _ rfl;have q0:=bO (yx A0);have k5:=(yx Q).cell 5 _ rfl;go_wp2_with fail;clear q0 k0 k5;refine(yx T _ (yx M)).mono ?_;rintro e w3 ⟨⟨a2,c2,rfl,U⟩,hx⟩;dsimp only at U;have C5:=yz (U.low (B':=w.1.size+1+1+1) (by omega));have R:=ap R0 hx;have B5:=aB M hx;clear hx U R0 M A0 Q T;have r0:=ck (yx R);have e0:=dU (yx R);go_wp2_with fail;clear r0 e0;refine ϊ (v:=κ #[σ a2 L2.length c2,J Z x,J Z f,J Z K,J Z N,J Z O,J Z P,J Z d,J Z E,J Z u]) ?_ rfl ⟨?_,?_⟩
 ·exact up _ _ (w.1.size+1+1) _ x f K N O P d E u rfl (bJ (aZ (yx R) rfl _ x f K N O P d E u))
 ·refine⟨a2,c2,rfl,?_⟩;refine ax.low (B:=w.1.size+1+1+1) ?_ (by omega);iterate 10 (refine ax.far ?_ (ό (w.1.size+1+1)) _ _)
  exact yx C5
 ·iterate 10 (refine aF ?_ (Nat.le_add_right _ 2) _ _)
  exact yx B5
theorem Hh(L:List St)(lim b A B C D a r:Int)(t:Option η)(c:Nat)(S:List D3)(E F G H l i j g:Int)(f:ByteArray)(u:Option η)(I:Nat)(w:ω)(hn:L.length<=1048576)(hS:aO w t L L.length)(hb:∀y,t=ς y->y.block<w.1.size)(aE:S.length<=1048576)(az:S.length<=I)(ay:I<=9223372036854775807)(hD:bu w u S S.length)(hB:∀y,u=ς y->y.block<w.1.size)(hc:bA ⟨4,E,F,G,H,S,l,i,f,j,g⟩=θ)(hs:f.size<=maxLen):
  χ prog 54 #[κ #[σ t L.length c,J Z lim,J Z b,J Z A,J Z B,J Z C,J Z D,J Z a,J Z r],κ #[J Z 4,J Z E,J Z F,J Z G,J Z H,σ u S.length I,J Z l,J Z i,τ f,J Z j,J Z g]] w fun e q=>jy q w.1.size (eM ⟨L,lim,b,A,B,C,D,a,r⟩ ⟨4,E,F,G,H,S,l,i,f,j,g⟩) (fj ⟨L,lim,b,A,B,C,D,a,r⟩ ⟨4,E,F,G,H,S,l,i,f,j,g⟩) e/\δ w.1.size w q:=by
 rw[(lm hc rfl).1,(lm hc rfl).2];try dsimp only
 clear hc;have B0:=yz (bT w (ξ #[σ t L.length c,J Z lim,J Z b,J Z A,J Z B,J Z C,J Z D,J Z a,J Z r] 38) (ξ #[J Z 4,J Z E,J Z F,J Z G,J Z H,σ u S.length I,J Z l,J Z i,τ f,J Z j,J Z g] 29) (ξ #[σ ν 0 0,J Z 0,J Z 0,J Z 0,J Z 0,J Z 0,J Z 0,J Z 0,J Z 0,J Z 0] 52));have M:=yz (((aq w [σ t L.length c,J Z lim,J Z b,J Z A,J Z B,J Z C,J Z D,J Z a,J Z r] 38).alloc (ξ #[J Z 4,J Z E,J Z F,J Z G,J Z H,σ u S.length I,J Z l,J Z i,τ f,J Z j,J Z g] 29)).alloc (ξ #[σ ν 0 0,J Z 0,J Z 0,J Z 0,J Z 0,J Z 0,J Z 0,J Z 0,J Z 0,J Z 0] 52));have K0:=yz ((by simpa using aq (w.alloc (ξ #[σ t L.length c,J Z lim,J Z b,J Z A,J Z B,J Z C,J Z D,J Z a,J Z r] 38)) [J Z 4,J Z E,J Z F,J Z G,J Z H,σ u S.length I,J Z l,J Z i,τ f,J Z j,J Z g] 29:Blk ((w.alloc (ξ #[σ t L.length c,J Z lim,J Z b,J Z A,J Z B,J Z C,J Z D,J Z a,J Z r] 38)).alloc (ξ #[J Z 4,J Z E,J Z F,J Z G,J Z H,σ u S.length I,J Z l,J Z i,τ f,J Z j,J Z g] 29)) (w.1.size+1) [J Z 4,J Z E,J Z F,J Z G,J Z H,σ u S.length I,J Z l,J Z i,τ f,J Z j,J Z g] 29).alloc (ξ #[σ ν 0 0,J Z 0,J Z 0,J Z 0,J Z 0,J Z 0,J Z 0,J Z 0,J Z 0,J Z 0] 52));have R0:=yz (by simpa using aq ((w.alloc (ξ #[σ t L.length c,J Z lim,J Z b,J Z A,J Z B,J Z C,J Z D,J Z a,J Z r] 38)).alloc (ξ #[J Z 4,J Z E,J Z F,J Z G,J Z H,σ u S.length I,J Z l,J Z i,τ f,J Z j,J Z g] 29)) [σ ν 0 0,J Z 0,J Z 0,J Z 0,J Z 0,J Z 0,J Z 0,J Z 0,J Z 0,J Z 0] 52:Blk (((w.alloc (ξ #[σ t L.length c,J Z lim,J Z b,J Z A,J Z B,J Z C,J Z D,J Z a,J Z r] 38)).alloc (ξ #[J Z 4,J Z E,J Z F,J Z G,J Z H,σ u S.length I,J Z l,J Z i,τ f,J Z j,J Z g] 29)).alloc (ξ #[σ ν 0 0,J Z 0,J Z 0,J Z 0,J Z 0,J Z 0,J Z 0,J Z 0,J Z 0,J Z 0] 52)) (w.1.size+1+1) [σ ν 0 0,J Z 0,J Z 0,J Z 0,J Z 0,J Z 0,J Z 0,J Z 0,J Z 0,J Z 0] 52);have al:w.1.size+1+1+1<=(((w.alloc (ξ #[σ t L.length c,J Z lim,J Z b,J Z A,J Z B,J Z C,J Z D,J Z a,J Z r] 38)).alloc (ξ #[J Z 4,J Z E,J Z F,J Z G,J Z H,σ u S.length I,J Z l,J Z i,τ f,J Z j,J Z g] 29)).alloc (ξ #[σ ν 0 0,J Z 0,J Z 0,J Z 0,J Z 0,J Z 0,J Z 0,J Z 0,J Z 0,J Z 0] 52)).1.size:=by simp
 have ai:∀W:ω,δ w.1.size w W->∀y,t=ς y->y.block<W.1.size:=fun W h y e=>ϋ (hb y e) h.size;have an:∀W:ω,δ w.1.size w W->∀y,u=ς y->y.block<W.1.size:=fun W h y e=>ϋ (hB y e) h.size;have ag:=wK l i f j g;have ah:=AN l i f j g;have ao:=rD (bq l i f j g);have cP:=yz (fun W=>tN l i f j g W hs);have cK:=yz (fun (W:ω) (h:δ w.1.size w W) (x:Option η) (k:Nat) (hk:(iK (bq l i f j g)).length<=k) (av:k<=9223372036854775807) (hd:bu W x (iK (bq l i f j g)) (iK (bq l i f j g)).length) (n:∀y,x=ς y->y.block<W.1.size)=>gE L (iK (bq l i f j g)) lim b A B C D a r t c x k W hn (by omega) (hS.kept h) hd (ai W h) n hk av);obtain⟨t2,am⟩:∃z,cx ⟨L,lim,b,A,B,C,D,a,r⟩ (iK (bq l i f j g))=z:=⟨_,rfl⟩
 obtain⟨o,ak⟩:∃z,eS ⟨L,lim,b,A,B,C,D,a,r⟩ (iK (bq l i f j g))=z:=⟨_,rfl⟩
 rw[am,ak]at cK ⊢;obtain⟨L2,p,m,A2,B2,C2,D2,d,O⟩:=t2;clear am ak hS hD hb hB ai an;have cF:=yz (fun W x y h1 h2=>El (bq l i f j g) x y W ag ah h1 h2);generalize iK (bq l i f j g)=fS at cF cK ao;generalize bq l i f j g=RS at cF cP ag;clear ah;go_enter func54,ntmps54;have k0:=(yx K0).cell 0 _ rfl;go_wp2_with fail;clear k0;refine wp_region_held_drew (S:=(fun q=>q.cell? ⟨w.1.size,0,ν⟩=ς (σ t L.length c)/\q.cell? ⟨w.1.size,1,ν⟩=ς (J Z lim)/\q.cell? ⟨w.1.size,2,ν⟩=ς (J Z b)/\q.cell? ⟨w.1.size,3,ν⟩=ς (J Z A)/\q.cell? ⟨w.1.size,4,ν⟩=ς (J Z B)/\q.cell? ⟨w.1.size,5,ν⟩=ς (J Z C)/\q.cell? ⟨w.1.size,6,ν⟩=ς (J Z D)/\q.cell? ⟨w.1.size,7,ν⟩=ς (J Z a)/\q.cell? ⟨w.1.size,8,ν⟩=ς (J Z r)/\q.cell? ⟨w.1.size+1,6,ν⟩=ς (J Z l)/\q.cell? ⟨w.1.size+1,7,ν⟩=ς (J Z i)/\q.cell? ⟨w.1.size+1,8,ν⟩=ς (τ f)/\q.cell? ⟨w.1.size+1,9,ν⟩=ς (J Z j)/\q.cell? ⟨w.1.size+1,10,ν⟩=ς (J Z g) )) (by kernel_rfl) ?_ (fun P=>?_)
 ·exact⟨(yx M).cell 0 _ rfl,(yx M).cell 1 _ rfl,(yx M).cell 2 _ rfl,(yx M).cell 3 _ rfl,(yx M).cell 4 _ rfl,(yx M).cell 5 _ rfl,(yx M).cell 6 _ rfl,(yx M).cell 7 _ rfl,(yx M).cell 8 _ rfl,(yx K0).cell 6 _ rfl,(yx K0).cell 7 _ rfl,(yx K0).cell 8 _ rfl,(yx K0).cell 9 _ rfl,(yx K0).cell 10 _ rfl⟩
 refine tkO 0 rfl ?_;refine tkO 1 rfl ?_;refine tkO 2 rfl ?_;refine tkO 3 rfl ?_;refine tkO 4 rfl ?_;refine tkO 5 rfl ?_;refine tkO 6 rfl ?_;have Bd:=yz ((yx B0).drew);have Ad:=yz ((yx M).drewn);have Kd:=yz ((yx K0).drewn);have Rd:=yz ((yx R0).drewn);have aw:w.1.size+1+1+1<=(World.drew (((w.alloc (ξ #[σ t L.length c,J Z lim,J Z b,J Z A,J Z B,J Z C,J Z D,J Z a,J Z r] 38)).alloc (ξ #[J Z 4,J Z E,J Z F,J Z G,J Z H,σ u S.length I,J Z l,J Z i,τ f,J Z j,J Z g] 29)).alloc (ξ #[σ ν 0 0,J Z 0,J Z 0,J Z 0,J Z 0,J Z 0,J Z 0,J Z 0,J Z 0,J Z 0] 52))).1.size:=al;generalize World.drew (((w.alloc (ξ #[σ t L.length c,J Z lim,J Z b,J Z A,J Z B,J Z C,J Z D,J Z a,J Z r] 38)).alloc (ξ #[J Z 4,J Z E,J Z F,J Z G,J Z H,σ u S.length I,J Z l,J Z i,τ f,J Z j,J Z g] 29)).alloc (ξ #[σ ν 0 0,J Z 0,J Z 0,J Z 0,J Z 0,J Z 0,J Z 0,J Z 0,J Z 0,J Z 0] 52))=V at Bd Ad Kd Rd aw P ⊢;clear B0 M K0 R0 al;refine rd1 7 rfl fun K Q=>?_;go_simp;refine(yx cP _).mono ?_;rintro e v1 ⟨⟨x1,rfl,ho⟩,n⟩;obtain⟨a1,c1,rfl⟩:=cy ho;have B1:=aB Bd n;have N:=ap Ad n;have K1:=ap Kd n;have R1:=ap Rd n;have D1:=yz (jT ho).1;have ar:∀y,a1=ς y->y.block<v1.1.size:=fun y e=>(uj ho y e).2;have aA:=n.size;clear n ho Bd Ad Kd Rd cP;refine Q.out _ _ ⟨(yx N).cell 0 _ rfl,(yx N).cell 1 _ rfl,(yx N).cell 2 _ rfl,(yx N).cell 3 _ rfl,(yx N).cell 4 _ rfl,(yx N).cell 5 _ rfl,(yx N).cell 6 _ rfl,(yx N).cell 7 _ rfl,(yx N).cell 8 _ rfl,(yx K1).cell 6 _ rfl,(yx K1).cell 7 _ rfl,(yx K1).cell 8 _ rfl,(yx K1).cell 9 _ rfl,(yx K1).cell 10 _ rfl⟩ (fun U=>?_);clear Q K P;refine rd1 8 rfl fun K Q=>?_;go_simp;refine(yx cF _ _ _ (yx D1) ar).mono ?_;rintro e v2 ⟨⟨x2,rfl,ho⟩,n⟩;obtain⟨a3,c3,rfl⟩:=cy ho;have ac:=aB B1 n;have A2':=ap N n;have s:=ap K1 n;have af:=ap R1 n;have aD:maxLen<=9223372036854775807:=by decide +kernel
 have ae:=jT ho;have ab:=yz ae.1;have au:∀y,a3=ς y->y.block<v2.1.size:=fun y e=>(uj ho y e).2;have aj:fS.length<=c3/\c3<=9223372036854775807:=by rcases ae.2 with h | h<;>omega
 have aC:=n.size;clear n ho ae B1 N K1 R1 D1 cF;refine Q.out _ _ ⟨(yx A2').cell 0 _ rfl,(yx A2').cell 1 _ rfl,(yx A2').cell 2 _ rfl,(yx A2').cell 3 _ rfl,(yx A2').cell 4 _ rfl,(yx A2').cell 5 _ rfl,(yx A2').cell 6 _ rfl,(yx A2').cell 7 _ rfl,(yx A2').cell 8 _ rfl,(yx s).cell 6 _ rfl,(yx s).cell 7 _ rfl,(yx s).cell 8 _ rfl,(yx s).cell 9 _ rfl,(yx s).cell 10 _ rfl⟩ (fun X=>?_);clear Q K U;refine rd1 9 rfl fun K Q=>?_;go_simp;refine(yx cK _ (yx ac) a3 c3 aj.1 aj.2 (yx ab) au).mono ?_;rintro e w3 ⟨⟨a2,c2,rfl,hC⟩,n⟩;dsimp only at hC;have C5:=yz (hC.low (B':=w.1.size+1+1+1) (by omega));have R5:=ap af n;have R:=ap A2' n;have K5:=ap s n;have B5:=aB ac n;clear n hC af ac A2' s cK ab;refine Q.out _ _ ⟨(yx R).cell 0 _ rfl,(yx R).cell 1 _ rfl,(yx R).cell 2 _ rfl,(yx R).cell 3 _ rfl,(yx R).cell 4 _ rfl,(yx R).cell 5 _ rfl,(yx R).cell 6 _ rfl,(yx R).cell 7 _ rfl,(yx R).cell 8 _ rfl,(yx K5).cell 6 _ rfl,(yx K5).cell 7 _ rfl,(yx K5).cell 8 _ rfl,(yx K5).cell 9 _ rfl,(yx K5).cell 10 _ rfl⟩ (fun Y=>?_);clear Q K X;refine rd1 10 rfl fun K Q=>?_;have r0:=ck (yx R5);have e0:=dU (yx R5);go_simp;clear r0 e0;have T:=yz (jS (yx R) (show w.1.size≠w.1.size+1+1 by omega) (σ a2 L2.length c2) (J Z p) (J Z m) (J Z A2) (J Z B2) (J Z C2) (J Z D2) (J Z d) (J Z O) (J Z o));have K6:=yz (jS (yx K5) (show w.1.size+1≠w.1.size+1+1 by omega) (σ a2 L2.length c2) (J Z p) (J Z m) (J Z A2) (J Z B2) (J Z C2) (J Z D2) (J Z d) (J Z O) (J Z o));refine Q.out _ _ ⟨(yx T).cell 0 _ rfl,(yx T).cell 1 _ rfl,(yx T).cell 2 _ rfl,(yx T).cell 3 _ rfl,(yx T).cell 4 _ rfl,(yx T).cell 5 _ rfl,(yx T).cell 6 _ rfl,(yx T).cell 7 _ rfl,(yx T).cell 8 _ rfl,(yx K6).cell 6 _ rfl,(yx K6).cell 7 _ rfl,(yx K6).cell 8 _ rfl,(yx K6).cell 9 _ rfl,(yx K6).cell 10 _ rfl⟩ (fun aa=>?_);clear Q K Y T K6;refine rdn ?_;clear aa;go_wp2_with fail;refine ϊ (v:=κ #[σ a2 L2.length c2,J Z p,J Z m,J Z A2,J Z B2,J Z C2,J Z D2,J Z d,J Z O,J Z o]) ?_ rfl ⟨?_,?_⟩
 ·exact up _ _ (w.1.size+1+1) _ p m A2 B2 C2 D2 d O o rfl (bJ (aZ (yx R5) rfl _ p m A2 B2 C2 D2 d O o))
 ·refine⟨a2,c2,rfl,?_⟩;refine ax.low (B:=w.1.size+1+1+1) ?_ (by omega);iterate 10 (refine ax.far ?_ (ό (w.1.size+1+1)) _ _)
  exact yx C5
 ·iterate 10 (refine aF ?_ (Nat.le_add_right _ 2) _ _)
  exact yx B5
end
end Go.Proofs.YtnnhjegapofopaaGreatDoor
