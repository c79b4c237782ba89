import Derived.RangeFuncNested
import Derived.RangeFuncBound
import Derived.RangeFuncCalls
import Derived.RangeFuncLeaves
import Derived.Shelf.Abstract
import Derived.Shelf.RegionOpen
import Derived.OwnWalkIn
import Derived.TacticsInMore
import Derived.LoopNIn
import Derived.LoopIn
import Derived.Maps.OwnIn
import Derived.BigRegionIn
import Derived.Scope
import Derived.Test.YtnnhjegapofopaaGreatDoorM5
import Derived.Test.YtnnhjegapofopaaGreatDoorM8
namespace Go.Proofs.YtnnhjegapofopaaGreatDoor
set_option linter.all false
set_option maxRecDepth 100000
set_option maxHeartbeats 8000000
open Go.RowKit Go.Sort Go.Proofs.Tryz
open Go.Value renaming int -> J,slice -> σ,string -> τ,agg -> κ,pointer -> π,bool -> β
open Go.Obj renaming cells -> ξ
open Go.Ending renaming returned -> ρ
open Go renaming World -> ω,Value -> μ,Calls -> χ,Addr -> η,cell_regrown -> ϊ,bodyPost_ret -> ϋ,below_regrown -> ό
open Go.RowKit renaming Below -> δ,intOf -> ύ
open Option renaming none -> ν,some -> ς
open Bool renaming true -> θ,false -> φ
open Nat renaming le_refl -> ώ,le_trans -> Ϗ,lt_of_lt_of_le -> ϐ
open List renaming getD_eq_getElem?_getD -> ϑ,getElem?_eq_getElem -> ϒ,getElem?_append_right -> ϓ
open Go.RowKit.Below renaming refl -> ϔ
open Go.IntKind renaming i64 -> Z
theorem ye(a:List Int){i:Nat}(b:i<a.length):bd (a.take (i+1))=bd (a.take i)+if a.getD i 0≠0 then 1 else 0:=by
 rw[List.take_succ_eq_append_getElem b,lB];have e:a.getD i 0=a[i]:=by rw[ϑ,ϒ b];rfl
 rw[e]
theorem iH(d:List Int)(a:Option η)(c:Nat)(w:ω)(B:d.length<=1048576)(t:jx w a d d.length):
  χ prog 189 #[σ a d.length c] w fun e v=>e=ρ (J Z (bd d:Int))/\v=w:=by
 have x:Hid (bd (d.take d.length)=bd d):=yz (by rw[List.take_length]);rcases t with s | ⟨b,o,rfl,A,m⟩
 ·have e:d=[]:=List.eq_nil_of_length_eq_zero s;subst e;go_enter func189,ntmps189;go_wp2;refine wp_loop_rounds 1 ?_;rw[rounds_succ];go_wp2;go_ret;exact⟨rfl,rfl⟩
 have r:=yz m;clear m;go_enter func189,ntmps189;go_wp2_with fail;go_loop [3,8] (fun q i=>∃k:Nat,k<=d.length/\i=J Z k/\q=J Z (bd (d.take k):Int)) (fun _ i=>d.length-(ύ i).toNat)
 case atStart=>exact⟨0,Nat.zero_le _,rfl,rfl⟩
 case round=>
  obtain⟨k,u,rfl,rfl⟩:=hrel;by_cases g:k<d.length
  ·have y:=yx r k g;have l:=yz (ye d g);have h:=oc (d.take k);rw[List.length_take]at h;have p:(bd (d.take k):Int)<=1048576:=by omega
   have n:(k:Int)<(d.length:Int):=by omega
   generalize d.getD k 0=z at *;by_cases j:z=0
   ·have f:Hid (bd (d.take (k+1))=bd (d.take k)):=yz (by rw[yx l,if_neg (by simpa using j)];rfl);subst j;go_wp2_with fail;go_round
    case rel=>exact⟨k+1,by omega,by go_num,by rw[yx f]⟩
    case measure=>simp[ύ];omega
   ·have f:Hid (bd (d.take (k+1))=bd (d.take k)+1):=yz (by rw[yx l,if_pos j]);go_wp2_with fail;go_round
    case rel=>exact⟨k+1,by omega,by go_num,by rw[yx f];go_num⟩
    case measure=>simp[ύ];omega
  ·obtain rfl:k=d.length:=by omega
   go_wp2;go_ret;exact⟨rfl,rfl⟩
def eD(L:List St)(S:List D3):List Int×Nat:=(gJ (ey L S) (L.map (·.1)) S.length []).foldl et ([],0)
theorem pk(L:List St)(S:List D3):dL L S=(if (eD L S).2=1 then (eD L S).1 else [])/\gm L S=(if (eD L S).2=1 then (bd (eD L S).1:Int) else 0)/\dn L S=(if (eD L S).2=0 then 6 else if 1<(eD L S).2 then 11 else 0):=by
 have h:=Id (ey L S) (L.map (·.1)) S.length;unfold dL gm dn;change xW (idR L S) (eD L S) at h;rcases h with ⟨b,c,a⟩ | ⟨b,c,a,d,f⟩
 ·rw[b,a];exact⟨rfl,rfl,rfl⟩
 ·rw[d];refine⟨?_,?_,rfl⟩
  ·split
   ·rename_i e;exact f e
   ·rfl
  ·split
   ·rw[a]
   ·rfl
section
open Go.RowKit Go.Sort Go.Shelf
attribute [local go_sem] Oper.semAt_some
abbrev Nam:=List Int×Nat
def MW(x:Nam):μ:=σ (ς ⟨x.2,0,ν⟩) x.1.length x.1.length
def MV(x:Nam)(w:ω):Prop:=cu w 2 x.2 (x.1.length*1) (vW x.1)
structure KpX (p q:Nat) (W W':ω):Prop where
 size:W.1.size<=W'.1.size
 os:W'.os=W.os
 tape:W'.tape=W.tape
 output:W'.output=W.output
 same:∀k o,W.heap[k]? = ς o->(o.isCells=θ\/o.isWalk=θ)->k≠p->k≠q->W'.heap[k]? = ς o
variable {p q:Nat}
theorem KpX.trans{A B C:ω}(h:KpX p q A B)(k:KpX p q B C):KpX p q A C:=⟨Ϗ h.size k.size,k.os.trans h.os,k.tape.trans h.tape,k.output.trans h.output,fun i o d c a b=>k.same i o (h.same i o d c a b) c a b⟩
theorem KpX.of_below{A B:ω}(h:δ A.1.size A B):KpX p q A B:=⟨h.size,h.os,h.tape,h.output,fun i o a _ _ _=>by rw[h.block i (Array.getElem?_eq_some_iff.1 a).1];exact a⟩
def tR(l p q:Nat)(J:List (List Int)->ω->Prop):Prop:=∀m pre (x:Nam) W,J pre W->(∃W0,J pre W0/\W0.1.size<=x.2)->MV x W->x.1.length<=6->YieldAt Fence.wide m prog l #[MW x] W fun e W'=>e=ρ (β θ)/\J (pre ++ [x.1]) W'/\KpX p q W W'
theorem GT(L:List St)(S:List D3)(c:List Int)(t v:Option η)(x y b N l p q n:Nat)(a:List (List Int)->ω->Prop)(f:List (List Int))(w:ω)(Q:S.length<=6)(C:c.length=S.length)(M:dh w b N L c)
  (K:a f w) (i:∀W W',a f W->δ W.1.size W W'->a f W') (P:tR l p q a) :
  CallsIn Fence.wide n prog 214 #[κ #[σ t L.length x,σ v S.length y,.map (ς b)],J Z (c.length:Int),.func (.yield l) #[] #[]] w fun e W'=>e=ρ (β θ)/\a (f ++ [c]) W'/\KpX p q w W':=by
 have s:=an w (ξ #[σ t L.length x,σ v S.length y,.map (ς b)] 278);have E:=yz s;have z:=yz (i _ _ K s);have I:=yz (fun (k:Nat)=>callsIn_wide (n:=k) |>.2 (Ly L c S.length t v L.length x y b N _ Q (M.below s)));have G:=yz P;have j:=yz i;clear s M K P i;rw[C];refine callsIn_of_wp func214 rfl trivial ?_ rfl;simp only[ntmps214,List.size_toArray,List.length_cons,List.length_nil,Nat.reduceAdd,Nat.reduceSub,Array.replicate_succ,Array.replicate_zero,List.push_toArray,List.append_toArray,List.nil_append,List.cons_append];gi_wp2
 refine⟨trivial,fun h=>(by cases h),?_⟩;refine(yx I _).mono ?_;rintro e T ⟨rfl,d,D⟩;have r:(w.alloc (ξ #[σ t L.length x,σ v S.length y,.map (ς b)] 278)).1.size=w.1.size+1:=by simp
 rw[r]at d ⊢;have g:=yx G (n-1) f (c,w.1.size+1+1) T (yx j _ _ (yx z) D) ⟨_,yx z,by simp⟩ (by unfold MV;dsimp only;rw[C];exact d) (by dsimp only;omega);unfold MW at g;dsimp only at g;rw[C]at g;have F:=yz (KpX.of_below (p:=p) (q:=q) (ak (yx E) D));clear d D r I G j z E;obtain⟨U,tmps,u,H,R,O⟩:=g;gi_wp2
 refine⟨fun h=>(by cases h),?_⟩;refine O.mono ?_;rintro e V ⟨rfl,m,o⟩;have A:=yz m;have B:=yz ((yx F).trans o);clear m o O R F;gi_wp2
 go_ret;exact⟨rfl,yx A,yx B⟩
end
section
theorem Aa{i j:Nat}(h:i≠j):(Lit.int .i64 (i:Int))≠Lit.int .i64 (j:Int):=fun e=>h (by injection e with _ e;omega)
theorem ml(b:List Int)(a:Int){i:Nat}(h:i<b.length):(b ++ [a]).getD i 0=b.getD i 0:=by rw[ϑ,ϑ,List.getElem?_append_left h]
theorem qp(b:List Int)(a:Int):(b ++ [a]).getD b.length 0=a:=by rw[ϑ,ϓ (ώ _),Nat.sub_self];rfl
theorem mj(b:List Int)(a:Int){i:Nat}(h:b.length<i):(b ++ [a]).getD i 0=0:=by
 rw[ϑ,ϓ (by omega),List.getElem?_eq_none (by simp;omega)];rfl
theorem nz(a:List Int){i:Nat}(h:a.length<=i):a.getD i 0=0:=by rw[ϑ,List.getElem?_eq_none h];rfl
theorem vp(a:List Int)(i:Nat):(a ++ [(0:Int)]).getD i 0=a.getD i 0:=by
 rcases Nat.lt_trichotomy i a.length with h | h | h
 ·exact ml a 0 h
 ·rw[h,qp,nz a (ώ _)]
 ·rw[mj a 0 h,nz a (by omega)]
variable {a:Int} {ids:List Int}
theorem oN.snoc0{D:DataW Unit}{L:List St}(h:oN D L ids):oN D L (ids ++ [0]):=fun i b=>by
 have a:=h i b;unfold fV at a ⊢;rw[vp];exact a
theorem oN.put{D:DataW Unit}{L:List St}(h:oN D L ids)(f:Maps.IsMap D)(d:a≠0):oN (D.put (.int .i64 (ids.length:Int)) (th (a,atV L L.length a))) L (ids ++ [a]):=fun i j=>by
 by_cases e:i=ids.length
 ·subst e;rw[Maps.has_put_same f (by trivial),Maps.atKey_put_same f (by trivial)];unfold fV;rw[qp,if_pos d];exact⟨by simp[d],rfl⟩
 ·rw[Maps.has_put_other (Aa e),Maps.atKey_put_other (Aa e)];have c:=h i j;unfold fV at c ⊢
  have g:(ids ++ [a]).getD i 0=ids.getD i 0:=by
   rcases Nat.lt_or_gt_of_ne e with b | b
   ·exact ml ids a b
   ·rw[mj ids a b,nz ids (by omega)]
  rw[g];exact c
theorem oN.del{D:DataW Unit}{L:List St}(h:oN D L (ids ++ [a])):oN (D.del (.int .i64 (ids.length:Int))) L ids:=fun i f=>by
 by_cases e:i=ids.length
 ·subst e;rw[Maps.has_del_same,Maps.atKey_del_same];unfold fV;rw[nz ids (ώ _),if_neg (by simp)];exact⟨by simp,rfl⟩
 ·rw[Maps.has_del_other (Aa e),Maps.atKey_del_other (Aa e)];have b:=h i f;unfold fV at b ⊢
  have d:(ids ++ [a]).getD i 0=ids.getD i 0:=by
   rcases Nat.lt_or_gt_of_ne e with c | c
   ·exact ml ids a c
   ·rw[mj ids a c,nz ids (by omega)]
  rw[d]at b;exact b
def kx(F:List Int->Int->Bool)(A:List Int)(r:Nat)(ids:List Int)(i:Nat):List (List Int):=((A.take i).filter (F ids)).flatMap (fun a=>gJ F A r (ids ++ [a]))
theorem EE(F:List Int->Int->Bool)(A:List Int)(r:Nat)(a:List Int):kx F A r a 0=[]:=rfl
theorem wh(F:List Int->Int->Bool)(A:List Int)(r:Nat)(a:List Int){i:Nat}(b:i<A.length):kx F A r a (i+1)=kx F A r a i ++ if F a (A.getD i 0)=θ then gJ F A r (a ++ [A.getD i 0]) else []:=by
 unfold kx;rw[List.take_succ_eq_append_getElem b,List.filter_append,List.flatMap_append];have e:A.getD i 0=A[i]:=by rw[ϑ,ϒ b];rfl
 rw[e];congr 1
 cases h:F a A[i]<;>simp[h]
theorem Gx(F:List Int->Int->Bool)(A:List Int)(r:Nat)(a:List Int):gJ F A (r+1) a=kx F A r a A.length ++ gJ F A r (a ++ [0]):=by
 unfold kx;rw[List.take_length];rfl
theorem IZ(L:List St)(S:List D3)(b:List Int)(a:Int):ey L S b a=fL (ay L S b b.length) (vA S b.length,(a,atV L L.length a)) (ay L S b b.length).length:=zP L S b _ b.length
end
section
open Go.RowKit Go.Sort Go.Shelf
attribute [local go_sem] Oper.semAt_some
structure KpM (b p q:Nat) (W W':ω):Prop where
 size:W.1.size<=W'.1.size
 os:W'.os=W.os
 tape:W'.tape=W.tape
 output:W'.output=W.output
 same:∀k o,W.heap[k]? = ς o->(o.isCells=θ\/o.isWalk=θ)->k≠b->k≠p->k≠q->W'.heap[k]? = ς o
variable {b p q:Nat} {a:Option η} {w w':ω}
theorem KpM.trans{A B C:ω}(h:KpM b p q A B)(k:KpM b p q B C):KpM b p q A C:=⟨Ϗ h.size k.size,k.os.trans h.os,k.tape.trans h.tape,k.output.trans h.output,fun i o f e a c d=>k.same i o (h.same i o f e a c d) e a c d⟩
theorem KpX.toM{A B:ω}(h:KpX p q A B):KpM b p q A B:=⟨h.size,h.os,h.tape,h.output,fun i o d e _ a c=>h.same i o d e a c⟩
theorem KpM.of_grown{A B:ω}(h:A.grownBy B (ς b)):KpM b p q A B:=⟨h.size,h.os,h.tape,h.output,fun i o a _ c _ _=>by rw[h.block i (Array.getElem?_eq_some_iff.1 a).1 (fun e=>c (Option.some.inj e))];exact a⟩
theorem KpM.of_below{A B:ω}(h:δ A.1.size A B):KpM b p q A B:=KpM.of_grown (dX h)
theorem KpM.cell{A B:ω}(h:KpM b p q A B){a:η}{v:μ}(c:A.cell? a=ς v)(f:a.block≠b)(g:a.block≠p)(i:a.block≠q):B.cell? a=ς v:=by
 obtain⟨o,d,j⟩:=cells_of_cell c;have e:=h.same a.block o d (.inl j) f g i;rw[<-c];exact World.cell?_of_block (e.trans d.symm)
def mY(a:Option η)(b p q:Nat):Prop:=∀y,a=ς y->y.block≠b/\y.block≠p/\y.block≠q
theorem KK{L:List St}{n:Nat}(h:aO w a L n)(d:KpM b p q w w')(j:mY a b p q):aO w' a L n:=by
 rcases h with h | ⟨c,o,rfl,s,t⟩
 ·exact .inl h
 ·obtain⟨e,f,g⟩:=j _ rfl;refine .inr ⟨c,o,rfl,ϐ s d.size,fun i u=>?_⟩;obtain⟨k,l,m,r⟩:=t i u;exact⟨d.cell k e f g,d.cell l e f g,d.cell m e f g,d.cell r e f g⟩
theorem Mp{L:List D3}{n:Nat}(h:bu w a L n)(d:KpM b p q w w')(e:mY a b p q):bu w' a L n:=by
 rcases h with h | ⟨c,o,rfl,r,s⟩
 ·exact .inl h
 ·obtain⟨f,g,j⟩:=e _ rfl;refine .inr ⟨c,o,rfl,ϐ r d.size,fun i t=>?_⟩;obtain⟨k,l,m⟩:=s i t;exact⟨d.cell k f g j,d.cell l f g j,d.cell m f g j⟩
theorem LT{A:List Sg}{n:Nat}(h:gH w a A n)(d:KpM b p q w w')(j:mY a b p q):gH w' a A n:=by
 rcases h with h | ⟨c,o,rfl,v,x⟩
 ·exact .inl h
 ·obtain⟨e,f,g⟩:=j _ rfl;refine .inr ⟨c,o,rfl,ϐ v d.size,fun i y=>?_⟩;obtain⟨k,l,m,r,s,t,u⟩:=x i y;exact⟨d.cell k e f g,d.cell l e f g,d.cell m e f g,d.cell r e f g,d.cell s e f g,d.cell t e f g,d.cell u e f g⟩
theorem dh.isMap{n:Nat}{L:List St}{d:List Int}(h:dh w b n L d):∃a c,w.heap[b]? = ς (.map a c):=by
 obtain⟨D,⟨a,c,e,_⟩,_⟩:=h;exact⟨a,c,e⟩
def JAb(b:Nat)(J:List (List Int)->ω->Prop):Prop:=∀pre W W',J pre W->(∃es c,W.heap[b]? = ς (.map es c))->W.grownBy W' (ς b)->J pre W'
def Lj(L:List St)(S:List D3)(ar br:Option η)(cr dr b l p q:Nat)(J:List (List Int)->ω->Prop)(r:Nat):Prop:=∀(ids:List Int) (pre:List (List Int)) (N n:Nat) (w:ω),ids.length+r=S.length->N+13 ^ r<=100000000->dh w b N L ids->aO w ar L L.length->bu w br S S.length->p<w.1.size->q<w.1.size->J pre w ->
  CallsIn Fence.wide n prog 214 #[κ #[σ ar L.length cr,σ br S.length dr,.map (ς b)],.int .i64 (ids.length:Int),.func (.yield l) #[] #[]] w fun e W'=>e=ρ (β θ)/\J (pre ++ gJ (ey L S) (L.map (·.1)) r ids) W'/\dh W' b (N+(13 ^ r-1)) L ids/\KpM b p q w W'
theorem GV(L:List St)(S:List D3)(u v:Option η)(y z b l p q:Nat)(J:List (List Int)->ω->Prop)(Q:S.length<=6)(I:JAb b J)(O:tR l p q J)(j:b≠p)(k:b≠q):Lj L S u v y z b l p q J 0:=fun s t N n w V C o U T X Y P=>by
 refine(GT L S s u v y z b N l p q n (fun a W=>J a W/\∃f c,W.heap[b]? = ς (.map f c)) t w Q (by omega) o ⟨P,o.isMap⟩ (fun W W' h B=>?_) (fun m a x W A r G H=>?_)).mono fun e W' h=>⟨h.1,h.2.1.1,?_,h.2.2.toM⟩
 ·obtain⟨f,c,g⟩:=h.2;exact⟨I _ _ _ h.1 h.2 (dX B),f,c,by rw[B.block b (Array.getElem?_eq_some_iff.1 g).1];exact g⟩
 ·obtain⟨F,tmps,d,i,R,M⟩:=O m a x W A.1 (r.elim fun E h=>⟨E,h.1.1,h.2⟩) G H;refine⟨F,tmps,d,i,R,M.mono fun e W' h=>⟨h.1,⟨h.2.1,?_⟩,h.2.2⟩⟩;obtain⟨f,c,g⟩:=A.2;exact⟨f,c,h.2.2.same b _ g (.inr rfl) j k⟩
 ·obtain⟨D,⟨f,c,g,rest⟩,K⟩:=o;exact⟨D,(show W'.ownsMap prog 3 wO b N D from ⟨f,c,h.2.2.same b _ g (.inr rfl) j k,rest⟩).mono (by omega),K⟩
end
section
open Go
def vF(J:Nat->Act->ω->Prop)(Q:Exit->Act->ω->Prop):Exit->Act->ω->Prop
 | .goto l,a,w=>J l a w
 | e,a,w=>Q e a w
section
variable {P:Program} {a:Act} {w:ω} {Q:Exit->Act->ω->Prop}
theorem AD{c:Code}(J:Nat->Act->ω->Prop)(m:Nat->Act->ω->Nat)
  (first:c.wp P (vF J Q) a w)
  (p:∀l a w,J l a w->∃rest,findLabel c l=ς rest/\rest.wp P (vF (fun q t v=>J q t v/\m q t v<m l a w) Q) a w):(Code.scope c).wp P Q a w:=by
 intro b k x
 have D:∀n l a w,m l a w=n->J l a w->∀rest,findLabel c l=ς rest->∃e t v,Q e t v/\Arrives P (lone (b.at a (.code rest :: .inScope c :: k)) x w) b k x e t v:=by
  intro n
  induction n using Nat.strongRecOn with
  | _ n ih=>
   intro l a w L F rest K;obtain⟨s,G,I⟩:=p l a w F;obtain rfl:s=rest:=Option.some.inj (G.symm.trans K);obtain⟨e,g,i,j,d⟩:=I b (.inScope c :: k) x;cases e with
   | normal=>exact⟨.normal,g,i,j,Steps.trans d (.one step_inScope)⟩
   | exit id=>exact⟨.exit id,g,i,j,fun C B=>d C (by simp[exitTo,B])⟩
   | goto q=>
    obtain⟨u,H⟩:=j;obtain⟨f,o,_⟩:=p q g i u;have A:gotoIn q (.inScope c :: k)=ς (.code f :: .inScope c :: k):=by simp[gotoIn,o]
    obtain⟨z,y,E,r,h⟩:=ih _ (by omega) q g i rfl u f o;exact⟨z,y,E,r,.of_steps (d _ A) h⟩
   | ret=>exact⟨_,g,i,j,d⟩
   | panic ch=>exact⟨_,g,i,j,d⟩
   | outgrown=>exact⟨_,g,i,j,d⟩
 obtain⟨e,g,i,j,d⟩:=first b (.inScope c :: k) x
 cases e with
 | normal=>exact⟨.normal,g,i,j,.head step_scope (Steps.trans d (.one step_inScope))⟩
 | exit id=>exact⟨.exit id,g,i,j,fun C B=>.head step_scope (d C (by simp[exitTo,B]))⟩
 | goto q=>
  obtain⟨f,o,_⟩:=p q g i j;have A:gotoIn q (.inScope c :: k)=ς (.code f :: .inScope c :: k):=by simp[gotoIn,o]
  obtain⟨z,y,E,r,h⟩:=D _ q g i rfl j f o;exact⟨z,y,E,r,.of_steps (.head step_scope (d _ A)) h⟩
 | ret=>exact⟨_,g,i,j,.of_steps (.one step_scope) d⟩
 | panic ch=>exact⟨_,g,i,j,.of_steps (.one step_scope) d⟩
 | outgrown=>exact⟨_,g,i,j,.of_steps (.one step_scope) d⟩
end
end
section
def bU(s:ByteArray)(p:Nat):Nat->Nat->Nat->Except Int (Nat×Nat)
 | 0,_,_=>.error 3
 | k+1,i,u=>
  if s.size<=p+i then .error 4
  else if i=9/\1<bK s (p+i) then .error 3
  else if bK s (p+i)<128 then
   (if bK s (p+i)=0/\0<i then .error 3 else .ok (u+bK s (p+i) % 128*2 ^ (7*i),p+i+1))
  else bU s p k (i+1) (u+bK s (p+i) % 128*2 ^ (7*i))
def unf(u:Nat):Int:=if u % 2=1 then -((u / 2:Nat):Int)-1 else ((u / 2:Nat):Int)
theorem zm(u:Nat)(h:u<18446744073709551616):-9223372036854775808<=unf u/\unf u<=9223372036854775807:=by
 unfold unf;split<;>omega
variable {s:ByteArray} {i k p u:Nat}
theorem pD(h:s.size<=p+i):bU s p (k+1) i u=.error 4:=by rw[bU,if_pos h]
theorem wE(h:p+i<s.size)(a:i=9)(b:1<s[p+i].toNat):bU s p (k+1) i u=.error 3:=by
 rw[bU,if_neg (by omega),if_pos ⟨a,by rw[eB h];exact b⟩]
theorem ov(h:p+i<s.size)(c:i=9->s[p+i].toNat<=1)(d:s[p+i].toNat<128):
  bU s p (k+1) i u=if s[p+i].toNat=0/\0<i then .error 3 else .ok (u+s[p+i].toNat % 128*2 ^ (7*i),p+i+1):=by
 rw[bU,if_neg (by omega),eB h,if_neg (by intro ⟨a,b⟩;have:=c a;omega),if_pos d]
theorem sf(h:p+i<s.size)(b:i<9)(a:¬s[p+i].toNat<128):
  bU s p (k+1) i u=bU s p k (i+1) (u+s[p+i].toNat % 128*2 ^ (7*i)):=by
 rw[bU,if_neg (by omega),eB h,if_neg (by omega),if_neg a]
theorem lc(u c i:Nat)(e:u<2 ^ (7*i)):u+c % 128*2 ^ (7*i)<2 ^ (7*(i+1)):=by
 have a:c % 128<=127:=by omega
 have b:c % 128*2 ^ (7*i)<=127*2 ^ (7*i):=Nat.mul_le_mul_right _ a;have d:2 ^ (7*(i+1))=128*2 ^ (7*i):=by rw[show 7*(i+1)=7+7*i by omega,Nat.pow_add]
 omega
theorem Mu(h:i<=9):2 ^ (7*i)<=9223372036854775808:=by
 have:2 ^ (7*i)<=2 ^ 63:=Nat.pow_le_pow_right (by omega) (by omega);simpa using this
theorem ke(u c i:Nat)(f:i<=9)(e:u<2 ^ (7*i))(d:i=9->c<=1):u+c % 128*2 ^ (7*i)<18446744073709551616:=by
 by_cases h:i=9
 ·subst h;have:=d rfl;have a:c % 128<=1:=by omega
  have b:c % 128*2 ^ (7*9)<=1*2 ^ (7*9):=Nat.mul_le_mul_right _ a;have:(2:Nat) ^ (7*9)=9223372036854775808:=by decide
  omega
 ·have a:=lc u c i e;have b:2 ^ (7*(i+1))<=2 ^ 63:=Nat.pow_le_pow_right (by omega) (by omega);have:(2:Nat) ^ 63=9223372036854775808:=by decide
  omega
theorem rq(m:Int):IntKind.u64.wrap m=m % 18446744073709551616:=by simp[IntKind.wrap,IntKind.bits,IntKind.signed]
theorem uh(u c i:Nat)(k:i<=9)(e:u<2 ^ (7*i))(j:c<256)(f:i=9->c<=1):
  bits .or .u64 (u:Int) (IntKind.u64.wrap (IntKind.u64.wrap (bits .and .u8 (c:Int) 127)*2 ^ (7*i)))=((u+c % 128*2 ^ (7*i):Nat):Int):=by
 have m:=ke u c i k e f
 have g:bits .and .u8 (c:Int) 127=((c % 128:Nat):Int):=by
  have h:=u8_and_nat c 127 j (by omega);rw[nat_mask7]at h;exact h
 have b:IntKind.u64.wrap ((c % 128:Nat):Int)=((c % 128:Nat):Int):=by rw[rq];omega
 have l:((c % 128:Nat):Int)*2 ^ (7*i)=((c % 128*2 ^ (7*i):Nat):Int):=by push_cast;rfl
 rw[g,b,l];have a:c % 128*2 ^ (7*i)<18446744073709551616:=by omega
 have d:IntKind.u64.wrap ((c % 128*2 ^ (7*i):Nat):Int)=((c % 128*2 ^ (7*i):Nat):Int):=by
  rw[rq];generalize c % 128*2 ^ (7*i)=x at *;omega
 rw[d,u64_or_nat _ _ (by omega) a,Nat.or_comm,nat_join (7*i) _ _ (by simp) e,Nat.add_comm]
theorem JZ(c:Nat)(a:c<256):bits .or .u64 0 (IntKind.u64.wrap (IntKind.u64.wrap (bits .and .u8 (c:Int) 127)))=((c % 128:Nat):Int):=by
 have h:=uh 0 c 0 (by omega) (by simp) a (by omega);simpa using h
theorem Ka(u c:Nat)(d:u<2 ^ (7*9))(b:c<256)(a:c<=1):
  bits .or .u64 (u:Int) (IntKind.u64.wrap (IntKind.u64.wrap (bits .and .u8 (c:Int) 127)*9223372036854775808))=((u+c % 128*2 ^ (7*9):Nat):Int):=by
 have h:=uh u c 9 (by omega) d b (fun _=>a);rw[show ((2:Int) ^ (7*9))=9223372036854775808 by decide]at h;exact h
end
theorem nU(u:Nat)(w:ω)(g:u<18446744073709551616):
    χ prog 153 #[.int .u64 (u:Int)] w fun e k=>e=ρ (J Z (unf u))/\k=w:=by
  have a:bits .and .u64 (u:Int) 1=((u % 2:Nat):Int):=by
    have h:=u64_and_nat u 1 g (by omega);rw[nat_mask1]at h;exact h
  by_cases h:u % 2=1
  · have i:(bits .and .u64 (u:Int) 1==1)=θ:=by rw[a,h];rfl
    have b:=yz (show wrap64 (bits .xor .u64 IntKind.u64.max ((u:Int) / 2))=unf u by
      have f:IntKind.u64.max=18446744073709551615:=by decide
      have j:bits .xor .u64 18446744073709551615 ((u / 2:Nat):Int)=((18446744073709551615-u / 2:Nat):Int):=by
        have d:=u64_xor_nat 18446744073709551615 (u / 2) (by omega) (by omega);refine Eq.trans d ?_;congr 1
        have c:(BitVec.allOnes 64 ^^^ BitVec.ofNat 64 (u / 2)).toNat=18446744073709551615-u / 2:=by
          rw[BitVec.allOnes_xor,BitVec.toNat_not,BitVec.toNat_ofNat,Nat.mod_eq_of_lt (by omega)]
        rw[BitVec.toNat_xor,BitVec.toNat_allOnes,BitVec.toNat_ofNat,Nat.mod_eq_of_lt (by omega)]at c;simpa using c
      rw[f,show ((u:Int) / 2)=((u / 2:Nat):Int) by omega,j];unfold wrap64 unf;rw[if_pos h]
      omega)
    clear a;go_enter func153,ntmps153;go_wp2;go_ret;exact⟨by rw[<-yx b];rfl,rfl⟩
  · have i:(bits .and .u64 (u:Int) 1==1)=φ:=by rw[a];simp;omega
    have b:=yz (show (u:Int) / 2=unf u by unfold unf;rw[if_neg h];omega);clear a;go_enter func153,ntmps153;go_wp2;go_ret;exact⟨by rw[<-yx b];rfl,rfl⟩
def rR:Except Int (Nat×Nat)->μ
  | .error c=>.tuple #[J Z 0,J Z 0,.iface 167 (κ #[J Z c])]
  | .ok x=>.tuple #[J Z (unf x.1),J Z (x.2:Int),.nilIface]
def J0(s:ByteArray)(p:Nat)(a':Act):Prop:=∃(i u:Nat) (ci pl:Int) (b:μ) (u11 u12 u13 u14 u15 u16 u17 u18 u19 u20 u21 u22 u23 u24 u25 u26 u27 u28 u29 u30 u31 u32 u33 u34 u35 u36 u37 u38 u39 u40 u41 u42 u43 u44 u45 u46 u47 u48 u49 u50 u51 u52 u53 u54 u55 u56:μ),ci=i/\pl=(p:Int)+i/\i<=9/\u<2 ^ (7*i)/\bU s p 10 0 0=bU s p (9-i+1) i u /\
     a' = { tmps:=#[τ s,J Z (p:Int),undef,undef,J Z 0,J Z 0,.nilIface,.int .u64 u,b,J Z ci,J Z pl,u11,u12,u13,u14,u15,u16,u17,u18,u19,u20,u21,u22,u23,u24,u25,u26,u27,u28,u29,u30,u31,u32,u33,u34,u35,u36,u37,u38,u39,u40,u41,u42,u43,u44,u45,u46,u47,u48,u49,u50,u51,u52,u53,u54,u55,u56],defers:=[] }
def J1(s:ByteArray)(p:Nat)(a':Act):Prop:=∃(u0 u1 u2 u3 u4 u5 u6 u7 u8 u9 u10 u11 u12 u13 u14 u15 u16 u17 u18 u19 u20 u21 u22 u23 u24 u25 u26 u27 u28 u29 u30 u31 u32 u33 u34 u35 u36 u37 u38 u39 u40 u41 u42 u43 u44 u45 u46 u47 u48 u49 u50 u51 u52 u53 u54 u55 u56:μ),bU s p 10 0 0=.error 3/\a' = { tmps:=#[u0,u1,u2,u3,u4,u5,u6,u7,u8,u9,u10,u11,u12,u13,u14,u15,u16,u17,u18,u19,u20,u21,u22,u23,u24,u25,u26,u27,u28,u29,u30,u31,u32,u33,u34,u35,u36,u37,u38,u39,u40,u41,u42,u43,u44,u45,u46,u47,u48,u49,u50,u51,u52,u53,u54,u55,u56],defers:=[] }
def J2(s:ByteArray)(p:Nat)(a':Act):Prop:=∃(i u c:Nat) (ci pl:Int) (u11 u12 u13 u14 u15 u16 u17 u18 u19 u20 u21 u22 u23 u24 u25 u26 u27 u28 u29 u30 u31 u32 u33 u34 u35 u36 u37 u38 u39 u40 u41 u42 u43 u44 u45 u46 u47 u48 u49 u50 u51 u52 u53 u54 u55 u56:μ),ci=(i:Int)+1/\pl=(p:Int)+i+1/\i<=9/\p+i<s.size/\u<18446744073709551616/\c<128/\bU s p 10 0 0=(if c=0/\0<i then .error 3 else .ok (u,p+i+1)) /\
     a' = { tmps:=#[τ s,J Z (p:Int),undef,undef,J Z 0,J Z 0,.nilIface,.int .u64 u,.int .u8 (c:Int),J Z ci,J Z pl,u11,u12,u13,u14,u15,u16,u17,u18,u19,u20,u21,u22,u23,u24,u25,u26,u27,u28,u29,u30,u31,u32,u33,u34,u35,u36,u37,u38,u39,u40,u41,u42,u43,u44,u45,u46,u47,u48,u49,u50,u51,u52,u53,u54,u55,u56],defers:=[] }
def Jr(s:ByteArray)(p:Nat)(w:ω)(l:Nat)(a':Act)(w':ω):Prop:=w'=w/\((l=0/\J0 s p a')\/(l=1/\J1 s p a')\/(l=2/\J2 s p a'))
def mr(l:Nat)(a':Act)(_:ω):Nat:=if l=0 then 20-(ύ (a'.tmps.getD 9 undef)).toNat else if l=2 then 2 else 1
theorem CM(s:ByteArray)(p:Nat)(w:ω)(hs:s.size<=8000)(h1:(p:Int)<=9223372036854775807):
    χ prog 126 #[τ s,J Z (p:Int)] w fun e w'=>e=ρ (rR (bU s p 10 0 0))/\w'=w:=by
  go_enter func126,ntmps126;go_wp2;refine AD (Jr s p w) mr ?_ ?_
  · by_cases d:p<s.size
    · have o:s[p].toNat<256:=UInt8.toNat_lt _
      have j:=yz (JZ s[p].toNat o);by_cases m:s[p].toNat<128
      · have a:=yz (ov (s:=s) (p:=p) (k:=9) (i:=0) (u:=0) d (by omega) m)
        go_wp2;go_step3
        go_wp2;go_step3
        rw[yx j];exact⟨rfl,.inr (.inr ⟨rfl,0,_,_,_,_,_,_,_,_,_,_,_,_,_,_,_,_,_,_,_,_,_,_,_,_,_,_,_,_,_,_,_,_,_,_,_,_,_,_,_,_,_,_,_,_,_,_,_,_,_,_,by simp,by simp,by omega,d,by omega,m,(yx a).trans (by simp),rfl⟩)⟩
      · have a:=yz (sf (s:=s) (p:=p) (k:=9) (i:=0) (u:=0) d (by omega) m)
        go_wp2;go_step3
        go_wp2;go_step3
        rw[yx j];exact⟨rfl,.inl ⟨rfl,1,_,_,_,_,_,_,_,_,_,_,_,_,_,_,_,_,_,_,_,_,_,_,_,_,_,_,_,_,_,_,_,_,_,_,_,_,_,_,_,_,_,_,_,_,_,_,_,_,_,_,by simp,by simp,by omega,by omega,(yx a).trans (by simp),rfl⟩⟩
    · have a:=yz (pD (s:=s) (p:=p) (k:=9) (i:=0) (u:=0) (by omega))
      go_wp2;go_step3
      go_wp2;simp only[vF];go_ret3
      exact⟨by rw[yx a];rfl,rfl⟩
  · rintro l a' w' ⟨rfl,⟨rfl,i,u,ci,pl,b,r,t,v,x,y,z,A,B,C,D,E,F,G,H,I,K,L,M,N,O,P,Q,R,S,T,U,V,W,X,Y,aa,ab,ac,ad,ae,af,ag,ah,ai,aj,ak,al,am,an,ao,ap,rfl,rfl,q,g,f,rfl⟩ | ⟨rfl,u0,u1,u2,u3,u4,u5,u6,u7,u8,u9,ax,r,t,v,x,y,z,A,B,C,D,E,F,G,H,I,K,L,M,N,O,P,Q,R,S,T,U,V,W,X,Y,aa,ab,ac,ad,ae,af,ag,ah,ai,aj,ak,al,am,an,ao,ap,f,rfl⟩ | ⟨rfl,i,u,c,ci,pl,r,t,v,x,y,z,A,B,C,D,E,F,G,H,I,K,L,M,N,O,P,Q,R,S,T,U,V,W,X,Y,aa,ab,ac,ad,ae,af,ag,ah,ai,aj,ak,al,am,an,ao,ap,rfl,rfl,q,aw,g,m,f,rfl⟩⟩
    · refine⟨_,rfl,?_⟩
      by_cases d:p+i<s.size
      · have o:s[p+i].toNat<256:=UInt8.toNat_lt _
        have h:=Mu q;by_cases h9:i=9
        · subst h9
          by_cases aq:1<s[p+9].toNat
          · have a:=yz (f.trans (wE (s:=s) (p:=p) (k:=0) (i:=9) (u:=u) d rfl aq))
            clear f g h;go_wp2;go_step3
            exact⟨⟨rfl,.inr (.inl ⟨rfl,_,_,_,_,_,_,_,_,_,_,_,_,_,_,_,_,_,_,_,_,_,_,_,_,_,_,_,_,_,_,_,_,_,_,_,_,_,_,_,_,_,_,_,_,_,_,_,_,_,_,_,_,_,_,_,_,_,yx a,rfl⟩)⟩,by simp[mr,ύ]⟩
          · have a:=yz (f.trans (ov (s:=s) (p:=p) (k:=0) (i:=9) (u:=u) d (by omega) (by omega)))
            have j:=yz (Ka u s[p+9].toNat g o (by omega));have n:=yz (ke u s[p+9].toNat 9 (by omega) g (by omega));clear f g h;go_wp2;go_step3
            rw[yx j];exact⟨⟨rfl,.inr (.inr ⟨rfl,9,_,_,_,_,_,_,_,_,_,_,_,_,_,_,_,_,_,_,_,_,_,_,_,_,_,_,_,_,_,_,_,_,_,_,_,_,_,_,_,_,_,_,_,_,_,_,_,_,_,_,by simp,by simp,by omega,d,yx n,by omega,yx a,rfl⟩)⟩,by simp[mr,ύ]⟩
        · have au:i<9:=by omega
          by_cases m:s[p+i].toNat<128
          · have a:=yz (f.trans (ov (s:=s) (p:=p) (k:=9-i) (i:=i) (u:=u) d (by omega) m))
            have j:=yz (uh u s[p+i].toNat i q g o (by omega));have n:=yz (ke u s[p+i].toNat i q g (by omega));clear f g h h9;go_wp2;go_step3
            rw[yx j];exact⟨⟨rfl,.inr (.inr ⟨rfl,i,_,_,_,_,_,_,_,_,_,_,_,_,_,_,_,_,_,_,_,_,_,_,_,_,_,_,_,_,_,_,_,_,_,_,_,_,_,_,_,_,_,_,_,_,_,_,_,_,_,_,rfl,rfl,by omega,d,yx n,m,yx a,rfl⟩)⟩,by simp[mr,ύ];omega⟩
          · have a:=yz (f.trans (sf (s:=s) (p:=p) (k:=9-i) (i:=i) (u:=u) d au m))
            have j:=yz (uh u s[p+i].toNat i q g o (by omega));have n:=yz (lc u s[p+i].toNat i g);have HM:=yz (show bU s p 10 0 0=bU s p (9-(i+1)+1) (i+1) (u+s[p+i].toNat % 128*2 ^ (7*i)) by rw[show 9-(i+1)+1=9-i by omega];exact yx a);clear f g h h9;go_wp2;go_step3
            rw[yx j];exact⟨⟨rfl,.inl ⟨rfl,i+1,_,_,_,_,_,_,_,_,_,_,_,_,_,_,_,_,_,_,_,_,_,_,_,_,_,_,_,_,_,_,_,_,_,_,_,_,_,_,_,_,_,_,_,_,_,_,_,_,_,_,by simp,by simp;omega,by omega,yx n,yx HM,rfl⟩⟩,by simp[mr,ύ];omega⟩
      · have a:=yz (f.trans (pD (s:=s) (p:=p) (k:=9-i) (i:=i) (u:=u) (by omega)))
        clear f g;go_wp2;simp only[vF];go_ret3
        exact⟨by rw[yx a];rfl,rfl⟩
    · refine⟨_,rfl,?_⟩
      have a:=yz f;clear f;go_wp2;simp only[vF];go_ret3
      exact⟨by rw[yx a];rfl,rfl⟩
    · refine⟨_,rfl,?_⟩
      by_cases hz:c=0
      · subst hz
        by_cases ar:0<i
        · have a:=yz (show bU s p 10 0 0=.error 3 by rw[f,if_pos ⟨rfl,ar⟩])
          clear f;go_wp2;go_step3
          exact⟨⟨rfl,.inr (.inl ⟨rfl,_,_,_,_,_,_,_,_,_,_,_,_,_,_,_,_,_,_,_,_,_,_,_,_,_,_,_,_,_,_,_,_,_,_,_,_,_,_,_,_,_,_,_,_,_,_,_,_,_,_,_,_,_,_,_,_,_,yx a,rfl⟩)⟩,by simp[mr]⟩
        · have a:=yz (show bU s p 10 0 0=.ok (u,p+i+1) by rw[f,if_neg (by omega)])
          clear f;obtain rfl:i=0:=by omega
          go_wp2_with (go_at_call 153;refine(nU _ _ g).mono ?_;rintro e w' ⟨rfl,hw⟩;obtain rfl:=hw.symm);simp only[vF];go_ret3
          exact⟨by rw[yx a];simp[rR],rfl⟩
      · have a:=yz (show bU s p 10 0 0=.ok (u,p+i+1) by rw[f,if_neg (by omega)])
        have av:((c:Int)==0)=φ:=by simp;omega
        clear f hz;go_wp2_with (go_at_call 153;refine(nU _ _ g).mono ?_;rintro e w' ⟨rfl,hw⟩;obtain rfl:=hw.symm);simp only[vF];go_ret3
        exact⟨by rw[yx a];simp[rR],rfl⟩
section
def aT(s:ByteArray)(p:Nat):Option (Int×Nat):=match bU s p 10 0 0 with | .ok x=>ς (unf x.1,x.2) | .error _=>ν
def eq(s:ByteArray)(p:Nat):Option (St×Nat):=
 match aT s p with
 | none=>ν
 | some (a,p1)=>match aT s p1 with
  | none=>ν
  | some (b,p2)=>match aT s p2 with
   | none=>ν
   | some (c,p3)=>match aT s p3 with
    | none=>ν
    | some (d,p4)=>ς ((a,b,c,d),p4)
variable {s:ByteArray} {p:Nat}
theorem FX:∀(k i u:Nat) {x:Nat×Nat},bU s p k i u=.ok x->p+i<x.2/\x.2<=s.size
 | 0,i,u,x,h=>by simp[bU]at h
 | k+1,i,u,x,h=>by
  rw[bU]at h;split at h
  ·cases h
  ·split at h
   ·cases h
   ·split at h
    ·split at h
     ·cases h
     ·have:=Except.ok.inj h;subst this;exact⟨by simp,by simp;omega⟩
    ·have:=FX k (i+1) _ h;omega
theorem bg{n:Int}{q:Nat}(h:aT s p=ς (n,q)):p<q/\q<=s.size:=by
 unfold aT at h;cases a:bU s p 10 0 0 with
 | error c=>rw[a]at h;cases h
 | ok x=>
  rw[a]at h;have:=FX 10 0 0 a;simp at h;omega
end
section
def gX(w:ω):Prop:=w.cell? ⟨2,0,ν⟩=ς (.iface 230 (κ #[π (ς ⟨3,123,ν⟩)]))
variable {w:ω}
theorem DW(h:gX w):2<w.1.size:=World.block_lt_of_cell? w _ h
theorem le{a:ω}(h:gX w)(b:δ w.1.size w a):gX a:=by
 unfold gX;rw[b.cell (p:=⟨2,0,ν⟩) (DW h)];exact h
theorem oW(h:gX w)(o:Obj):gX (w.alloc o):=le h ((ϔ _ _).alloc (ώ _) _)
theorem CN(s:ByteArray)(p:Int)(w:ω)(h:p<0):
  χ prog 126 #[τ s,J Z p] w fun e a=>e=ρ (.tuple #[J Z 0,J Z 0,.iface 167 (κ #[J Z 1])])/\a=w:=by
 go_enter func126,ntmps126;go_wp2;go_step3
 go_wp2;rw[Exit.noGoto_ret];go_ret3
 exact⟨rfl,rfl⟩
theorem kh{B:Nat}{a:ω}(h:δ B a w)(b:B<=a.1.size)(o:Obj):δ B a (w.alloc o):=h.alloc (Ϗ b h.size) o
def dj(s:ByteArray)(p:Int):Except Int (Nat×Nat):=if p<0 then .error 1 else bU s p.toNat 10 0 0
theorem kV(s:ByteArray)(p:Int)(w:ω)(b:s.size<=8000)(a:p<=9223372036854775807):
  χ prog 126 #[τ s,J Z p] w fun e c=>e=ρ (rR (dj s p))/\c=w:=by
 by_cases h:p<0
 ·rw[dj,if_pos h];exact CN s p w h
 ·obtain⟨n,rfl⟩:∃n:Nat,p=(n:Int):=⟨p.toNat,by omega⟩
  rw[dj,if_neg h,Int.toNat_natCast];exact CM s n w b a
def FN:Except Int (Nat×Nat)->μ
 | .error c=>κ #[J Z 0,J Z 0,J Z c]
 | .ok x=>κ #[J Z (unf x.1),J Z (x.2:Int),J Z 0]
def mo(s:ByteArray)(p:Int):μ:=if 8000<s.size then κ #[J Z 0,J Z 0,J Z 2] else FN (dj s p)
theorem LS(u c i:Nat)(b:i<=9)(e:u<2 ^ (7*i))(a:i=9->c<=1):
  IntKind.u64.wrap ((u:Int)+IntKind.u64.wrap ((c:Int) % 128*2 ^ (7*i)))=((u+c % 128*2 ^ (7*i):Nat):Int):=by
 have f:=ke u c i b e a;have d:(c:Int) % 128*2 ^ (7*i)=((c % 128*2 ^ (7*i):Nat):Int):=by push_cast;rfl
 rw[d,rq,rq];generalize c % 128*2 ^ (7*i)=x at *;omega
theorem tM(s:ByteArray)(p:Nat)(w:ω)(N:s.size<=8000)(I:(p:Int)<=9223372036854775807):
  χ prog 100 #[τ s,J Z (p:Int)] w fun e H=>e=ρ (FN (bU s p 10 0 0))/\δ w.1.size w H:=by
 go_enter func100,ntmps100;go_wp2;go_loop [5,6] (fun t i=>∃k u:Nat,k<=9/\i=J Z k/\t=.int .u64 u/\u<2 ^ (7*k)/\bU s p 10 0 0=bU s p (9-k+1) k u) (fun _ i=>10-(ύ i).toNat)
 case atStart=>exact⟨0,0,by omega,rfl,rfl,by simp,rfl⟩
 case round=>
  obtain⟨k,u,A,rfl,rfl,m,j⟩:=hrel;by_cases l:p+k<s.size
  ·have M:s[p+k].toNat<256:=UInt8.toNat_lt _;have G:(u:Int)<=9223372036854775807:=by have:=Mu A;omega
   by_cases n:k=9/\1<s[p+k].toNat
   ·have d:=yz (j.trans (wE (s:=s) (p:=p) (k:=9-k) (i:=k) (u:=u) l n.1 n.2));have a:((k:Int)==9)=θ:=by simp;omega
    have z:(1:Int)<(s[p+k].toNat:Int):=by omega
    clear j m n;go_wp2;exact ϋ (v:=κ #[J Z 0,J Z 0,J Z 3]) (by simp[results,results100,go_sem]) rfl ⟨by rw[yx d];rfl,(ϔ _ _).alloc (ώ _) _⟩
   ·have L:=LS u s[p+k].toNat k A m (by omega);have q:=ke u s[p+k].toNat k A m (by omega);have D:=yz (lc u s[p+k].toNat k m);by_cases E:s[p+k].toNat<128
    ·have d:=yz (j.trans (ov (s:=s) (p:=p) (k:=9-k) (i:=k) (u:=u) l (by omega) E));clear j m D;generalize u+s[p+k].toNat % 128*2 ^ (7*k)=U at *;have y:(s[p+k].toNat:Int)<128:=by omega
     have x:(U:Int)<=18446744073709551615:=by omega
     by_cases o:s[p+k].toNat=0/\0<k
     ·have f:=yz (show bU s p 10 0 0=.error 3 by rw[yx d,if_pos o]);have b:((s[p+k].toNat:Int)==0)=θ:=by simp;omega
      have g:(0:Int)<(k:Int):=by omega
      have a:((k:Int)==9)=θ\/((k:Int)==9)=φ:=by cases h:((k:Int)==9)<;>simp
      have z:decide ((1:Int)<(s[p+k].toNat:Int))=φ:=by simp;omega
      clear n o q d;rcases a with a | a
      all_goals
       go_wp2;exact ϋ (v:=κ #[J Z 0,J Z 0,J Z 3]) (by simp[results,results100,go_sem]) rfl ⟨by rw[yx f];rfl,(ϔ _ _).alloc (ώ _) _⟩
     ·have f:=yz (show bU s p 10 0 0=.ok (U,p+k+1) by rw[yx d,if_neg o])
      have b:(((s[p+k].toNat:Int)==0)=θ/\k<=0/\((k:Int)==9)=φ)\/(((s[p+k].toNat:Int)==0)=φ/\((k:Int)==9)=θ/\(s[p+k].toNat:Int)<=1)\/(((s[p+k].toNat:Int)==0)=φ/\((k:Int)==9)=φ):=by
       by_cases h:s[p+k].toNat=0
       ·exact .inl ⟨by simp;omega,by omega,by simp;omega⟩
       ·by_cases K:k=9
        ·exact .inr (.inl ⟨by simp;omega,by simp;omega,by omega⟩)
        ·exact .inr (.inr ⟨by simp;omega,by simp;omega⟩)
      clear n o q d;by_cases c:U % 2=1
      ·have C:((U:Int) % 2==1)=θ:=by simp;omega
       have r:=yz (show unf U = -((U:Int) / 2)-1 by unfold unf;rw[if_pos c];omega);clear c;rcases b with ⟨b,g,a⟩ | ⟨b,a,g⟩ | ⟨b,a⟩
       all_goals
        go_wp2;exact ϋ (v:=κ #[J Z (-((U:Int) / 2)-1),J Z ((p:Int)+k+1),J Z 0]) (by simp[results,results100,go_sem]) rfl ⟨by rw[yx f,<-yx r];simp[FN],(ϔ _ _).alloc (ώ _) _⟩
      ·have C:((U:Int) % 2==1)=φ:=by simp;omega
       have r:=yz (show unf U=(U:Int) / 2 by unfold unf;rw[if_neg c];omega);clear c;rcases b with ⟨b,g,a⟩ | ⟨b,a,g⟩ | ⟨b,a⟩
       all_goals
        go_wp2;exact ϋ (v:=κ #[J Z ((U:Int) / 2),J Z ((p:Int)+k+1),J Z 0]) (by simp[results,results100,go_sem]) rfl ⟨by rw[yx f,<-yx r];simp[FN],(ϔ _ _).alloc (ώ _) _⟩
    ·have B:k<9:=by omega
     have d:=yz (j.trans (sf (s:=s) (p:=p) (k:=9-k) (i:=k) (u:=u) l B E));have F:=yz (show bU s p 10 0 0=bU s p (9-(k+1)+1) (k+1) (u+s[p+k].toNat % 128*2 ^ (7*k)) by rw[show 9-(k+1)+1=9-k by omega];exact yx d);have a:((k:Int)==9)=φ:=by simp;omega
     have y:(128:Int)<=(s[p+k].toNat:Int):=by omega
     have x:((u+s[p+k].toNat % 128*2 ^ (7*k):Nat):Int)<=18446744073709551615:=by omega
     clear j m q n d;generalize u+s[p+k].toNat % 128*2 ^ (7*k)=U at *;go_wp2;go_round
     case rel=>exact⟨k+1,U,by omega,by go_num,rfl,yx D,yx F⟩
     case measure=>simp[ύ];omega
  ·have d:=yz (j.trans (pD (s:=s) (p:=p) (k:=9-k) (i:=k) (u:=u) (by omega)));clear j m;go_wp2;exact ϋ (v:=κ #[J Z 0,J Z 0,J Z 4]) (by simp[results,results100,go_sem]) rfl ⟨by rw[yx d];rfl,(ϔ _ _).alloc (ώ _) _⟩
theorem kB(s:ByteArray)(p:Int)(w:ω)(d:s.size<=1048576)(b:p<=9223372036854775807):
  χ prog 100 #[τ s,J Z p] w fun e c=>e=ρ (mo s p)/\δ w.1.size w c:=by
 by_cases a:8000<s.size
 ·rw[mo,if_pos a];go_enter func100,ntmps100;go_wp2;exact ϋ (v:=κ #[J Z 0,J Z 0,J Z 2]) (by simp[results,results100,go_sem]) rfl ⟨rfl,(ϔ _ _).alloc (ώ _) _⟩
 ·by_cases h:p<0
  ·rw[mo,if_neg a,dj,if_pos h];go_enter func100,ntmps100;go_wp2;exact ϋ (v:=κ #[J Z 0,J Z 0,J Z 1]) (by simp[results,results100,go_sem]) rfl ⟨rfl,(ϔ _ _).alloc (ώ _) _⟩
  ·obtain⟨n,rfl⟩:∃n:Nat,p=(n:Int):=⟨p.toNat,by omega⟩
   rw[mo,if_neg a,dj,if_neg h,Int.toNat_natCast];exact tM s n w (by omega) b
end
theorem CJ{s:ByteArray}{p q:Nat}{x:St}(h:eq s p=ς (x,q)):p<q/\q<=s.size:=by
 unfold eq at h;split at h
 ·cases h
 ·rename_i a n e
  split at h
  ·cases h
  ·rename_i b o f
   split at h
   ·cases h
   ·rename_i c r g
    split at h
    ·cases h
    ·rename_i d t i
     have j:=bg e;have k:=bg f;have l:=bg g;have m:=bg i;simp at h;omega
section
variable {xs:List μ} {m:Nat} {t:TypeId} {v:μ} {w:ω}
theorem vY{b:ω}{B:Nat}{n:Nat}(h:w.ownsRow B t m v n xs)(a:δ w.1.size w b):b.ownsRow B t m v n xs:=
 h.kept (row:=ν) ⟨a.os,a.tape,a.output,a.size,fun k c _=>a.block k c⟩ (by cases d:v.ownBlock<;>simp)
theorem ol{B:Nat}{b c:ω}{n:Nat}(h:δ B w b)(d:b.ownsRow B t m v n xs)(a:b.grownBy c v.ownBlock)(f:B<=b.1.size):δ B w c:=
 h.trans ⟨a.os,a.tape,a.output,a.size,fun k g=>a.block k (by omega) (fun e=>by have:=(d.lt k e.symm).1;omega)⟩
end
def fm(n:Int):Nat:=if n<0 then (-2*n-1).toNat else (2*n).toNat
theorem tZ(n:Int)(a:-9223372036854775808<=n)(b:n<=9223372036854775807):fm n<=18446744073709551615:=by
 unfold fm;split<;>omega
def enc:Nat->Nat->List Nat
 | 0,u=>[u]
 | k+1,u=>if u<128 then [u] else (u % 128+128) :: enc k (u / 128)
def lim:Nat->Nat
 | 0=>18446744073709551615
 | k+1=>lim k / 128
theorem LE:lim 9=1:=by decide
theorem qy{u k:Nat}(h:u<=lim k):u / 128<=lim (k+1):=Nat.div_le_div_right h
theorem Jw(k:Nat):lim k<=18446744073709551615:=by
 induction k with
 | zero=>exact ώ _
 | succ k ih=>exact Ϗ (Nat.div_le_self _ _) ih
theorem jd(k u:Nat)(h:u<128):enc k u=[u]:=by cases k<;>simp[enc,h]
theorem ns(k u:Nat)(h:¬u<128):enc (k+1) u=(u % 128+128) :: enc k (u / 128):=by rw[enc,if_neg h]
def aL(n:Int):ByteArray:=strOfNums ((enc 9 (fm n)).map fun b:Nat=>(b:Int))
theorem DU(k u:Nat):1<=(enc k u).length/\(enc k u).length<=k+1:=by
 induction k generalizing u with
 | zero=>simp[enc]
 | succ k ih=>
  unfold enc;split
  ·simp
  ·have:=ih (u / 128);simp;omega
theorem aU(n:Int):1<=(aL n).size/\(aL n).size<=10:=by
 have:=DU 9 (fm n);simp only[aL,strOfNums_size,List.length_map];omega
theorem NR(u:Nat):bits .or .u8 ((u:Int) % 256) 128=((u % 128+128:Nat):Int):=by
 have h:=u8_or_nat (u % 256) 128 (by omega) (by omega);have e:((u % 256:Nat):Int)=(u:Int) % 256:=by omega
 rw[e]at h
 have g:u % 256 ||| 128=u % 128+128:=by
  apply Nat.eq_of_testBit_eq;intro i;rw[Nat.testBit_or];have c:(u % 128+128).testBit i=(2 ^ 7*1+u % 2 ^ 7).testBit i:=by rw[Nat.add_comm]
  have d:(u % 256).testBit i=(u % 2 ^ 8).testBit i:=rfl
  have f:(128:Nat).testBit i=decide (i=7):=by
   have:=Nat.testBit_two_pow (n:=7) (m:=i);simpa[eq_comm] using this
  rw[c,d,f,Nat.testBit_two_pow_mul_add _ (Nat.mod_lt _ (by omega)),Nat.testBit_mod_two_pow,Nat.testBit_mod_two_pow];by_cases a:i<7
  ·simp[a,show i<8 by omega,show ¬i=7 by omega]
  ·by_cases b:i=7
   ·subst b;simp
   ·have:¬i<8:=by omega
    simp[a,b,this];have j:1<=i-7:=by omega
    have:Nat.testBit 1 (i-7)=φ:=by
     rw[show (1:Nat)=2 ^ 0 by rfl,Nat.testBit_two_pow];simp;omega
    exact this
 rw[g]at h;exact h
section
theorem Lt(n:Int)(i:-9223372036854775808<=n)(d:n<0):
  bits .xor .u64 IntKind.u64.max (IntKind.u64.wrap (IntKind.u64.wrap n*2))=(fm n:Nat):=by
 have c:∀m:Int,IntKind.u64.wrap m=m % 18446744073709551616:=fun m=>by simp[IntKind.wrap,IntKind.bits,IntKind.signed]
 have f:IntKind.u64.max=18446744073709551615:=by decide
 have g:IntKind.u64.wrap (IntKind.u64.wrap n*2)=((2*n+18446744073709551616).toNat:Nat):=by rw[c,c];omega
 have a:(2*n+18446744073709551616).toNat<18446744073709551616:=by omega
 have e:fm n=18446744073709551615-(2*n+18446744073709551616).toNat:=by unfold fm;rw[if_pos d];omega
 rw[f,g,e];generalize (2*n+18446744073709551616).toNat=x at *;have h:=u64_xor_nat 18446744073709551615 x (by omega) a;refine Eq.trans h ?_;congr 1
 have b:(BitVec.allOnes 64 ^^^ BitVec.ofNat 64 x).toNat=18446744073709551615-x:=by
  rw[BitVec.allOnes_xor,BitVec.toNat_not,BitVec.toNat_ofNat,Nat.mod_eq_of_lt (by simpa using a)]
 rw[BitVec.toNat_xor,BitVec.toNat_allOnes,BitVec.toNat_ofNat,Nat.mod_eq_of_lt (by simpa using a)]at b;simpa using b
theorem AJ(n:Int)(w:ω)(c:-9223372036854775808<=n)(d:n<=9223372036854775807):
  χ prog 104 #[J Z n] w fun e b=>e=ρ (.int .u64 (fm n:Nat))/\b=w:=by
 by_cases h:n<0
 ·have a:=yz (show ((fm n:Nat):Int)=2 * -(n+1)+1 by unfold fm;rw[if_pos h];omega);go_enter func104,ntmps104;go_wp2;go_ret;exact⟨by rw[yx a];rfl,rfl⟩
 ·have a:=yz (show ((fm n:Nat):Int)=2*n by unfold fm;rw[if_neg h];omega);have f:0<=n:=by omega
  go_enter func104,ntmps104;go_wp2;go_ret;exact⟨by rw[yx a];rfl,rfl⟩
theorem zW(n:Int)(w:ω)(b:-9223372036854775808<=n)(d:n<=9223372036854775807):
  χ prog 74 #[J Z n] w fun e c=>e=ρ (.int .u64 (fm n:Nat))/\c=w:=by
 by_cases h:n<0
 ·have a:=yz (Lt n b h);go_enter func74,ntmps74;go_wp2;go_ret;exact⟨by rw[<-yx a];rfl,rfl⟩
 ·have a:=yz (show ((fm n:Nat):Int)=n*2 by unfold fm;rw[if_neg h];omega);have f:0<=n:=by omega
  go_enter func74,ntmps74;go_wp2;go_ret;exact⟨by rw[yx a];rfl,rfl⟩
theorem Kx(B k:Nat)(d:k<=9)(W:ω):(Instr.sliceAt 109 (π (ς ⟨B,0,ν⟩)) ν (ς (J Z ((k:Int)+1))) ν).run prog W=.ok (σ (ς ⟨B,0,ν⟩) (k+1) 10) W:=by
 have a:prog.arrayLen 109=10:=by kernel_rfl
 have c:prog.underlying 109=ς (.array (prog.arrayLen 109) (prog.elem 109)):=by kernel_rfl
 have b:(Go.sizeOf (prog.elem 109)).run prog W=.ok 1 W:=by kernel_rfl
 rw[run_sliceAt_array_h W 109 ⟨B,0,ν⟩ c .i64 ((k:Int)+1) (by omega) (by rw[a];omega),b,a];simp[Result.andThen,slicedAt,Addr.add]
theorem IQ(w:ω)(T:TypeId)(Y:Array μ)(a:List Int)(n b:Nat)(g:a.length=n)(d:Y.toList.take n=a.map (Value.int .u8)):
  (convert 22 9 (σ (ς ⟨w.1.size,0,ν⟩) n b)).run prog (w.alloc (ξ Y T))=.ok (τ (strOfNums a)) (w.alloc (ξ Y T)):=by
 refine run_convert_bytes_arg (P:=prog) _ 22 5 underlying22 underlying5 w.1.size 0 n b a g ?_ 9 underlying9;intro i e
 have f:Y[i]? = ς (.int .u8 (a.getD i 0)):=by
  have c:(Y.toList.take n)[i]? = ς (.int .u8 (a.getD i 0)):=by
   rw[d,List.getElem?_map,List.getD,ϒ (by omega)];rfl
  rw[List.getElem?_take_of_lt e,Array.getElem?_toList]at c;exact c
 simp[f]
theorem Dt(C:Array μ)(k:Nat)(v:μ)(h:k<C.size):(C.setIfInBounds k v).toList.take (k+1)=C.toList.take k ++ [v]:=by
 rw[Array.toList_setIfInBounds,List.take_add_one,List.take_set_of_le (ώ _)];simp[h]
theorem iN(n:Int)(w:ω)(r:-9223372036854775808<=n)(s:n<=9223372036854775807):
  χ prog 30 #[J Z n] w fun e v=>e=ρ (τ (aL n))/\δ w.1.size w v:=by
 have q:=tZ n r s;go_enter func30,ntmps30;go_wp2_with (go_at_call 74;refine(zW _ _ r s).mono ?_;rintro e v ⟨rfl,rfl⟩)
 go_loopw [4,5] (fun t i wr=>∃(k u:Nat) (a:List Nat) (C:Array μ),k<=9/\i=J Z k/\t=.int .u64 u/\u<=lim k/\a.length=k/\a ++ enc (9-k) u=enc 9 (fm n) /\
   C.size=10/\C.toList.take k=a.map (fun b:Nat=>Value.int .u8 (b:Int))/\wr=w.alloc (ξ C 109)) (fun _ i _=>9-(ύ i).toNat)
 case atStart=>exact⟨0,fm n,[],_,by omega,rfl,rfl,q,rfl,rfl,rfl,rfl,rfl⟩
 case round=>
  obtain⟨k,u,a,C,G,rfl,rfl,f,l,j,D,m,rfl⟩:=hrel;have K:(u:Int)<=18446744073709551615:=by have:=Ϗ f (Jw k);omega
  by_cases d:u<128
  ·have g:=yz j;have p:=yz m;have o:=yz l;clear j m l f q;obtain⟨c,E⟩:∃c,C[k]? = ς c:=⟨C[k]'(by omega),by simp[show k<C.size by omega]⟩
   have I:=Kx w.1.size k G;have F:=IQ w 109 (C.setIfInBounds k (.int .u8 (u:Int))) ((enc 9 (fm n)).map fun b:Nat=>(b:Int)) (k+1) 10 (by rw[<-yx g,jd _ _ d];simp[yx o]) (by rw[Dt _ _ _ (by omega),yx p,<-yx g,jd _ _ d];simp);have A:=yz (show strOfNums ((enc 9 (fm n)).map fun b:Nat=>(b:Int))=aL n from rfl);generalize strOfNums ((enc 9 (fm n)).map fun b:Nat=>(b:Int))=S at *;go_wp2;go_ret;exact⟨by rw[<-yx A];rfl,(ϔ _ _).alloc (ώ _) _⟩
  ·have H:k<9:=by
    rcases Nat.lt_or_ge k 9 with h | h
    ·exact h
    ·obtain rfl:k=9:=by omega
     rw[LE]at f;omega
   have B:=yz (qy f);have g:=yz j;have p:=yz m;have o:=yz l;have z:=yz (NR u);clear j m l f q;obtain⟨c,E⟩:∃c,C[k]? = ς c:=⟨C[k]'(by omega),by simp[show k<C.size by omega]⟩
   have y:=yz (show (a ++ [u % 128+128]) ++ enc (9-(k+1)) (u / 128)=enc 9 (fm n) by rw[<-yx g,show 9-k=(9-(k+1))+1 by omega,ns _ _ d];simp);have x:=yz (show (C.setIfInBounds k (.int .u8 ((u % 128+128:Nat):Int))).toList.take (k+1)=(a ++ [u % 128+128]).map (fun b:Nat=>Value.int .u8 (b:Int)) by rw[Dt _ _ _ (by omega),yx p];simp);go_wp2;go_roundw
   case rel=>exact⟨k+1,u / 128,a ++ [u % 128+128],C.setIfInBounds k (.int .u8 ((u % 128+128:Nat):Int)),by omega,by go_num,by go_num,yx B,by simp[yx o],yx y,by simp[D],yx x,by rw[yx z]⟩
   case measure=>simp[ύ];omega
theorem NG:(prog.info? 5).map (fun i=>(i.zero,i.size,i.bytes))=ς (ς (.int .u8 0),1,1):=by kernel_rfl
variable {base:Nat} {w:ω}
theorem Hx{size n:Nat}{e:TypeId}{v:μ}{c:List μ}(h:w.ownsRow base e size v n c)(f:0<n):∃g a,v=σ (ς ⟨g,0,ν⟩) n a:=by
 rcases h.2 with ⟨_,d⟩ | ⟨g,a,_,b,_⟩
 ·omega
 ·exact⟨g,a,b⟩
theorem GC{g n a:Nat}{b:List Int}(h:w.ownsRow base 5 1 (σ (ς ⟨g,0,ν⟩) n a) n (b.map (Value.int .u8))):
  (convert 22 9 (σ (ς ⟨g,0,ν⟩) n a)).run prog w=.ok (τ (strOfNums b)) w:=by
 have c:b.length=n:=by have:=h.1;simpa using this
 refine run_convert_bytes_arg (P:=prog) _ 22 5 underlying22 underlying5 g 0 n a b c ?_ 9 underlying9;intro i d;rw[Nat.zero_add,h.cellAt i (by omega),List.getElem?_map,List.getD,ϒ (by omega)];rfl
theorem aN(n:Int)(w:ω)(H:-9223372036854775808<=n)(I:n<=9223372036854775807):
  χ prog 55 #[J Z n] w fun e M=>e=ρ (τ (aL n))/\δ w.1.size w M:=by
 have D:=tZ n H I;obtain⟨L,E,o,p,q⟩:=info_parts NG;go_enter func55,ntmps55;go_wp2_with (go_at_call 104;refine(AJ _ _ H I).mono ?_;rintro e M ⟨rfl,W⟩;obtain rfl:=W.symm)
 go_loopw [3,4] (fun t v wr=>∃(k u:Nat) (f:List Nat),k<=9/\t=.int .u64 u/\u<=lim k/\f.length=k/\f ++ enc (9-k) u=enc 9 (fm n) /\
   wr.ownsRow w.1.size 5 1 v k ((f.map fun b:Nat=>(b:Int)).map (Value.int .u8))/\δ w.1.size w wr) (fun t _ _=>(ύ t).toNat)
 case atStart=>exact⟨0,fm n,[],by omega,rfl,D,rfl,rfl,World.ownsRow_lit w #[] 0 (ώ _) (by simp[maxLen]) rfl,(ϔ _ _).alloc (ώ _) _⟩
 case round=>
  obtain⟨k,u,f,Y,rfl,z,B,A,d,r⟩:=hrel;have V:(u:Int)<=18446744073709551615:=by have:=Ϗ z (Jw k);omega
  have y:=r.size;by_cases s:u<128
  ·have C:=yz A;have G:=yz B;clear A B z D;go_wp2_with (at_builtin;refine wpList_append_own _ rfl _ _ 22 rfl w.1.size 5 L (.int .u8 0) 1 1 underlying22 E o p q rfl (by decide) _ _ _ rfl (d.alloc _) ⟨wr.1.size,0,ν⟩ 1 1 [.int .u8 (u:Int)] rfl rfl ?c1 ?c2 ?c3 ?c4 ?c5 ?_)
   case c1=>
    intro j x i
    match j,i with
    | 0,i=>simp at i;subst i;simp[Addr.add]
   case c2=>intro x l;simp at l;subst l;rfl
   case c3=>unfold maxLen;omega
   case c4=>omega
   case c5=>simp;omega
   intro X F a c _;have m:δ w.1.size w F:=(r.alloc y _).grown c (by simp;omega) (fun j i=>(d.lt j i).1);have l:List.map (Value.int IntKind.u8 ∘ fun b:Nat=>(b:Int)) f ++ [Value.int IntKind.u8 (u:Int)]=((enc 9 (fm n)).map fun b:Nat=>(b:Int)).map (Value.int .u8):=by rw[<-yx C,jd _ _ s];simp
   rw[l]at a;obtain⟨g,R,K⟩:=Hx a (by omega);rw[K]at a ⊢;have T:=GC a;have P:=yz (show strOfNums ((enc 9 (fm n)).map fun b:Nat=>(b:Int))=aL n from rfl);generalize strOfNums ((enc 9 (fm n)).map fun b:Nat=>(b:Int))=S at *;clear l d a c r E o p q K;go_wp2;go_ret;exact⟨by rw[<-yx P];rfl,m⟩
  ·have U:k<9:=by
    rcases Nat.lt_or_ge k 9 with h | h
    ·exact h
    ·obtain rfl:k=9:=by omega
     rw[LE]at z;omega
   have Q:=yz (qy z);have C:=yz A;have G:=yz B;clear A B z D;go_wp2_with (at_builtin;refine wpList_append_own _ rfl _ _ 22 rfl w.1.size 5 L (.int .u8 0) 1 1 underlying22 E o p q rfl (by decide) _ _ _ rfl (d.alloc _) ⟨wr.1.size,0,ν⟩ 1 1 [.int .u8 ((u:Int) % 128+128)] rfl rfl ?c1 ?c2 ?c3 ?c4 ?c5 ?_)
   case c1=>
    intro j x i
    match j,i with
    | 0,i=>simp at i;subst i;simp[Addr.add]
   case c2=>intro x l;simp at l;subst l;rfl
   case c3=>unfold maxLen;omega
   case c4=>omega
   case c5=>simp;omega
   intro X F a c _;have m:δ w.1.size w F:=(r.alloc y _).grown c (by simp;omega) (fun j i=>(d.lt j i).1);have l:List.map (Value.int IntKind.u8 ∘ fun b:Nat=>(b:Int)) f ++ [Value.int IntKind.u8 ((u:Int) % 128+128)]=((f ++ [u % 128+128]).map fun b:Nat=>(b:Int)).map (Value.int .u8):=by simp
   rw[l]at a;have N:=yz (show (f ++ [u % 128+128]) ++ enc (9-(k+1)) (u / 128)=enc 9 (fm n) by rw[<-yx C,show 9-k=(9-(k+1))+1 by omega,ns _ _ s];simp);have O:=yz a;clear l d a c r;go_wp2;go_roundw
   case rel=>exact⟨k+1,u / 128,f ++ [u % 128+128],by omega,by go_num,yx Q,by simp[yx G],yx N,yx O,m⟩
   case measure=>simp[ύ];omega
end
def Dh(s:St):ByteArray:=aL s.1 ++ aL s.2.1 ++ aL s.2.2.1 ++ aL s.2.2.2
def ba(ids:List Int):Nat->ByteArray
 | 0=>⟨#[]⟩
 | k+1=>ba ids k ++ aL (ids.getD k 0)
theorem eo(a:List Int)(k:Nat):(ba a k).size<=10*k:=by
 induction k with
 | zero=>exact ώ _
 | succ k ih=>
  have:=(aU (a.getD k 0)).2;unfold ba;rw[ByteArray.size_append];omega
def MA(w:ω)(a:Option η)(ids:List Int):Prop:=∃b,a=ς ⟨b,0,ν⟩/\b<w.1.size/\∀i,i<ids.length->w.cell? ⟨b,i,ν⟩=ς (J Z (ids.getD i 0))
def okI(x:Int):Prop:=-9223372036854775808<=x/\x<=9223372036854775807
theorem gY(d:List Int)(a:Option η)(c:Nat)(w:ω)(E:d.length<=100)(r:∀i,i<d.length->okI (d.getD i 0))(B:MA w a d):
  χ prog 70 #[σ a d.length c] w fun e C=>e=ρ (τ (ba d d.length))/\δ w.1.size w C:=by
 obtain⟨b,rfl,q,s⟩:=B;have v:=yz s;have z:=yz r;clear s r;generalize d.length=n at *;go_enter func70,ntmps70;go_wp2;go_loopw [3,8] (fun t i wr=>∃k:Nat,k<=n/\i=J Z k/\t=τ (ba d k)/\Hid (δ w.1.size w wr)) (fun _ i _=>n-(ύ i).toNat)
 case atStart=>exact⟨0,by omega,rfl,rfl,yz (ϔ _ _)⟩
 case round=>
  obtain⟨k,D,rfl,rfl,m⟩:=hrel;by_cases g:k<n
  ·have A:wr.cell? ⟨b,k,ν⟩=ς (J Z (d.getD k 0)):=by rw[(yx m).cell (p:=⟨b,k,ν⟩) q];exact yx v k g
   have j:=yx z k g;have u:(k:Int)<(n:Int):=by omega
   have y:Hid (ba d (k+1)=ba d k ++ aL (d.getD k 0)):=yz rfl;have H:=eo d k;have I:=(aU (d.getD k 0)).2;generalize d.getD k 0=x at *;generalize ba d k=t at *;go_wp2_with fail;refine(iN x _ j.1 j.2).mono ?_;rintro e F ⟨rfl,l⟩;have f:=aB m l;clear l m A;go_wp2_with fail;refine(fO _ _ _ (by omega) (by omega)).mono ?_;rintro e G ⟨rfl,l⟩;have o:=aB f l;clear l f;rw[<-yx y];go_wp2;go_roundw
   case rel=>exact⟨k+1,by omega,by go_num,rfl,o⟩
   case measure=>simp[ύ];omega
  ·have h:k=n:=by omega
   subst h;go_wp2;go_ret;exact⟨rfl,yx m⟩
theorem qE(w:ω)(b:List Int)(t:TypeId):MA (w.alloc (ξ (b.map (fun z=>Value.int .i64 z)).toArray t)) (ς ⟨w.1.size,0,ν⟩) b:=by
 refine⟨_,rfl,by simp,fun i a=>?_⟩;rw[cell_of_row _ _ i _ _ _ (heap_alloc_new w _)];rw[List.getElem?_toArray,List.getElem?_map,ϒ a,ϑ,ϒ a];rfl
def eu(t:ByteArray):ByteArray:=if 8000<t.size then ⟨#[]⟩ else aL (t.size:Int) ++ t
theorem mT(t:ByteArray)(w:ω)(g:t.size<=1048576):
  χ prog 45 #[τ t] w fun e d=>e=ρ (τ (eu t))/\δ w.1.size w d:=by
 by_cases b:8000<t.size
 ·have a:=yz (show eu t=⟨#[]⟩ by simp[eu,b]);go_enter func45,ntmps45;go_wp2;go_ret;exact⟨by rw[yx a];rfl,ϔ _ _⟩
 ·have a:=yz (show eu t=aL (t.size:Int) ++ t by simp[eu,b]);have f:=aU (t.size:Int);go_enter func45,ntmps45;go_wp2_with fail;refine(aN _ _ (by omega) (by omega)).mono ?_;rintro e h ⟨rfl,c⟩;go_wp2;go_ret;exact⟨by rw[yx a];rfl,c⟩
theorem tC(t:ByteArray)(w:ω)(h:t.size<=1048576):
  χ prog 255 #[τ t] w fun e f=>e=ρ (τ (eu t))/\δ w.1.size w f:=by
 by_cases d:8000<t.size
 ·have b:=yz (show eu t=⟨#[]⟩ by simp[eu,d]);go_enter func255,ntmps255;go_wp2;go_ret;exact⟨by rw[yx b];rfl,ϔ _ _⟩
 ·have b:=yz (show eu t=aL (t.size:Int) ++ t by simp[eu,d]);have g:=aU (t.size:Int);go_enter func255,ntmps255;go_wp2_with fail;refine(iN _ _ (by omega) (by omega)).mono ?_;rintro e i ⟨rfl,a⟩;go_wp2_with fail;refine(fO _ _ _ (by omega) (by omega)).mono ?_;rintro e j ⟨rfl,c⟩;go_wp2;go_ret;exact⟨by rw[yx b];rfl,a.trans (c.mono a.size)⟩
theorem AE{t:ByteArray}(h:t.size<=7996):bh t=t ++ tr (jD 0 t:Nat):=by simp[bh];intro;omega
theorem xF(a b c d:Int)(w:ω):(binOp .neq 130 (κ #[J Z a,J Z b,J Z c,J Z d]) (κ #[J Z a,J Z b,J Z c,J Z d])).run prog w=.ok (β φ) w:=by
 simp[go_sem]
theorem oU(a b c d:Int)(w:ω):(binOp .eql 24 (κ #[J Z a,J Z b,J Z c,J Z d]) (κ #[J Z a,J Z b,J Z c,J Z d])).run prog w=.ok (β θ) w:=by
 simp[go_sem]
theorem Ep(L:List St)(a p:Option η)(c R:Nat)(w:ω)(Y:L.length<=1048576)(C:aO w a L L.length)(d:aO w p L L.length):
  χ prog 71 #[σ a L.length c,σ p L.length R] w fun e U=>e=ρ (β θ)/\δ w.1.size w U:=by
 have hq:=xF;have Q:=yz C;have HS':=yz d;clear C d;go_enter func71,ntmps71;go_wp2;go_loopw [5] (fun i wr=>∃k:Nat,k<=L.length/\i=J Z k/\Hid (δ w.1.size w wr)) (fun i _=>L.length-(ύ i).toNat)
 case atStart=>exact⟨0,by omega,rfl,yz (ϔ _ _)⟩
 case round=>
  obtain⟨k,X,rfl,b⟩:=hrel;by_cases f:k<L.length
  ·have F:(k:Int)<(L.length:Int):=by omega
   have S:∃g o,a=ς ⟨g,o,ν⟩/\lY wr g (o+k*4) (stA L k):=by
    rcases(yx Q).kept (yx b) with h | ⟨g,o,e,_,h⟩
    ·omega
    ·exact⟨g,o,e,h k f⟩
   have T:∃g o,p=ς ⟨g,o,ν⟩/\lY wr g (o+k*4) (stA L k):=by
    rcases(yx HS').kept (yx b) with h | ⟨g,o,e,_,h⟩
    ·omega
    ·exact⟨g,o,e,h k f⟩
   obtain⟨g,o,rfl,D⟩:=S;obtain⟨W,o',rfl,E⟩:=T;obtain⟨⟨s0,s1,s2,s3⟩,l⟩:∃s,stA L k=s:=⟨_,rfl⟩
   rw[l]at D E;obtain⟨r,t,u,v⟩:=D;obtain⟨x,y,z,A⟩:=E;have G:=ϊ r;have H:=ϊ t;have I:=ϊ u;have K:=ϊ v;have M:=ϊ x;have N:=ϊ y;have O:=ϊ z;have P:=ϊ A;dsimp only at G H I K M N O P;clear r t u v x y z A l;go_wp2_with fail;refine de ?_;repeat (go_big_quiet_step (fail))
   refine di fun B m=>?_;have q:=ak (yx b) (ό wr B m);generalize grow (redrawn wr B) m=V at q ⊢;have n:=yz q;clear q b G M H N I O K P;go_wp2;go_roundw
   case rel=>exact⟨k+1,by omega,by go_num,n⟩
   case measure=>simp[ύ]<;>omega
  ·have j:k=L.length:=by omega
   subst j;go_wp2;go_ret;exact⟨rfl,yx b⟩
theorem ku(L:List St)(lim f A B C D d g:Int)(a i:Option η)(c j:Nat)(w:ω)(x:L.length<=1048576)(q:aO w a L L.length)(k:aO w i L L.length):
  χ prog 24 #[κ #[σ a L.length c,J Z lim,J Z f,J Z A,J Z B,J Z C,J Z D,J Z d,J Z g],κ #[σ i L.length j,J Z lim,J Z f,J Z A,J Z B,J Z C,J Z D,J Z d,J Z g]] w fun e y=>e=ρ (β θ)/\δ w.1.size w y:=by
 have E:=oU;have b:=aJ w (ξ #[σ a L.length c,J Z lim,J Z f,J Z A,J Z B,J Z C,J Z D,J Z d,J Z g] 38) (ξ #[σ i L.length j,J Z lim,J Z f,J Z A,J Z B,J Z C,J Z D,J Z d,J Z g] 38);have m:=yz ((aq w [σ a L.length c,J Z lim,J Z f,J Z A,J Z B,J Z C,J Z D,J Z d,J Z g] 38).alloc (ξ #[σ i L.length j,J Z lim,J Z f,J Z A,J Z B,J Z C,J Z D,J Z d,J Z g] 38));have n:Hid (Blk ((w.alloc (ξ #[σ a L.length c,J Z lim,J Z f,J Z A,J Z B,J Z C,J Z D,J Z d,J Z g] 38)).alloc (ξ #[σ i L.length j,J Z lim,J Z f,J Z A,J Z B,J Z C,J Z D,J Z d,J Z g] 38)) (w.1.size+1) [σ i L.length j,J Z lim,J Z f,J Z A,J Z B,J Z C,J Z D,J Z d,J Z g] 38):=yz (by have h:=aq (w.alloc (ξ #[σ a L.length c,J Z lim,J Z f,J Z A,J Z B,J Z C,J Z D,J Z d,J Z g] 38)) [σ i L.length j,J Z lim,J Z f,J Z A,J Z B,J Z C,J Z D,J Z d,J Z g] 38;simpa using h);have p:=yz (Ep L a i c j _ x (q.kept b) (k.kept b));have o:=yz b;clear q k b;go_enter func24,ntmps24;go_upto_region 1 with fail;generalize (w.alloc (ξ #[σ a L.length c,J Z lim,J Z f,J Z A,J Z B,J Z C,J Z D,J Z d,J Z g] 38)).alloc (ξ #[σ i L.length j,J Z lim,J Z f,J Z A,J Z B,J Z C,J Z D,J Z d,J Z g] 38)=W at *;have r:=bO (yx m);have s:=bO (yx n);go_wp2_with fail;refine(yx p).mono ?_;rintro e z ⟨rfl,l⟩;clear r s;have t:=ap m l;have u:=ap n l;have v:=aB o l;clear l m n o p;have r:=bO (yx t);have s:=bO (yx u);go_wp2;go_ret;exact⟨rfl,yx v⟩
theorem Eo(L:List St)(lim g A B C D d i f:Int)(a j:Option η)(c k:Nat)(w:ω)(E:L.length<=1048576)(s:aO w a L L.length)(m:aO w j L L.length)(n:f=0->aM ⟨L,lim,g,A,B,C,D,d,i⟩=θ):
  χ prog 18 #[κ #[σ a L.length c,J Z lim,J Z g,J Z A,J Z B,J Z C,J Z D,J Z d,J Z i,J Z f],κ #[σ j L.length k,J Z lim,J Z g,J Z A,J Z B,J Z C,J Z D,J Z d,J Z i,J Z f]] w fun e N=>e=ρ (β θ)/\δ w.1.size w N:=by
 have b:=aJ w (ξ #[σ a L.length c,J Z lim,J Z g,J Z A,J Z B,J Z C,J Z D,J Z d,J Z i,J Z f] 52) (ξ #[σ j L.length k,J Z lim,J Z g,J Z A,J Z B,J Z C,J Z D,J Z d,J Z i,J Z f] 52);have o:=yz ((aq w [σ a L.length c,J Z lim,J Z g,J Z A,J Z B,J Z C,J Z D,J Z d,J Z i,J Z f] 52).alloc (ξ #[σ j L.length k,J Z lim,J Z g,J Z A,J Z B,J Z C,J Z D,J Z d,J Z i,J Z f] 52));have u:Hid (Blk ((w.alloc (ξ #[σ a L.length c,J Z lim,J Z g,J Z A,J Z B,J Z C,J Z D,J Z d,J Z i,J Z f] 52)).alloc (ξ #[σ j L.length k,J Z lim,J Z g,J Z A,J Z B,J Z C,J Z D,J Z d,J Z i,J Z f] 52)) (w.1.size+1) [σ j L.length k,J Z lim,J Z g,J Z A,J Z B,J Z C,J Z D,J Z d,J Z i,J Z f] 52):=yz (by have h:=aq (w.alloc (ξ #[σ a L.length c,J Z lim,J Z g,J Z A,J Z B,J Z C,J Z D,J Z d,J Z i,J Z f] 52)) [σ j L.length k,J Z lim,J Z g,J Z A,J Z B,J Z C,J Z D,J Z d,J Z i,J Z f] 52;simpa using h);have z:=yz (ku L lim g A B C D d i a j c k _ E (s.kept b) (m.kept b));have x:=yz (s.kept b);have y:=yz b;clear s m b;go_enter func18,ntmps18;go_upto_region 1 with fail;generalize (w.alloc (ξ #[σ a L.length c,J Z lim,J Z g,J Z A,J Z B,J Z C,J Z D,J Z d,J Z i,J Z f] 52)).alloc (ξ #[σ j L.length k,J Z lim,J Z g,J Z A,J Z B,J Z C,J Z D,J Z d,J Z i,J Z f] 52)=W at *;have t:=ck (yx o);have M:=ck (yx u);go_wp2_with fail;refine(yx z).mono ?_;rintro e H ⟨rfl,l⟩;clear t M;have F:=ap o l;have q:=ap x l;have v:=aB y l;clear l o u y z x;have t:=ck (yx F);by_cases r:f=0
 ·have K:=n r;subst r;have G:=yz n;clear n;go_wp2_with fail;refine(fh L lim g A B C D d i a c H E (yx q)).mono ?_;rintro e O ⟨rfl,l⟩;rw[K];have p:=aB v l;clear l t;go_wp2;go_ret;exact⟨rfl,yx p⟩
 ·have I:(f==0)=φ:=by simpa using r
  have G:=yz n;clear n;go_wp2;go_ret;exact⟨rfl,yx v⟩
section
theorem JH(a b c:Int)(w:ω):(binOp .neq 93 (κ #[J Z a,J Z b,J Z c]) (κ #[J Z a,J Z b,J Z c])).run prog w=.ok (β φ) w:=by
 simp[go_sem]
theorem DV(c a:Int)(b:ByteArray)(w:ω):(binOp .eql 27 (κ #[J Z c,J Z a,τ b]) (κ #[J Z c,J Z a,τ b])).run prog w=.ok (β θ) w:=by
 simp[go_sem]
theorem Cq(S:List D3)(a p:Option η)(c M:Nat)(w:ω)(U:S.length<=1048576)(A:bu w a S S.length)(d:bu w p S S.length):
  χ prog 66 #[σ a S.length c,σ p S.length M] w fun e P=>e=ρ (β θ)/\δ w.1.size w P:=by
 have V:=JH;have L:=yz A;have HS':=yz d;clear A d;go_enter func66,ntmps66;go_wp2;go_loopw [5] (fun i wr=>∃k:Nat,k<=S.length/\i=J Z k/\Hid (δ w.1.size w wr)) (fun i _=>S.length-(ύ i).toNat)
 case atStart=>exact⟨0,by omega,rfl,yz (ϔ _ _)⟩
 case round=>
  obtain⟨k,T,rfl,b⟩:=hrel;by_cases f:k<S.length
  ·have D:(k:Int)<(S.length:Int):=by omega
   have N:∃g o,a=ς ⟨g,o,ν⟩/\uz wr g (o+k*3) (vA S k):=by
    rcases(yx L).kept (yx b) with h | ⟨g,o,e,_,h⟩
    ·omega
    ·exact⟨g,o,e,h k f⟩
   have O:∃g o,p=ς ⟨g,o,ν⟩/\uz wr g (o+k*3) (vA S k):=by
    rcases(yx HS').kept (yx b) with h | ⟨g,o,e,_,h⟩
    ·omega
    ·exact⟨g,o,e,h k f⟩
   obtain⟨g,o,rfl,B⟩:=N;obtain⟨R,W,rfl,C⟩:=O;obtain⟨⟨X,Y,s2⟩,l⟩:∃s,vA S k=s:=⟨_,rfl⟩
   rw[l]at B C;obtain⟨r,t,u⟩:=B;obtain⟨v,x,y⟩:=C;have E:=ϊ r;have F:=ϊ t;have G:=ϊ u;have H:=ϊ v;have I:=ϊ x;have K:=ϊ y;dsimp only at E F G H I K;clear r t u v x y l;go_wp2_with fail;refine de ?_;repeat (go_big_quiet_step (fail))
   refine di fun z m=>?_;have q:=ak (yx b) (ό wr z m);generalize grow (redrawn wr z) m=Q at q ⊢;have n:=yz q;clear q b E H F I G K;go_wp2;go_roundw
   case rel=>exact⟨k+1,by omega,by go_num,n⟩
   case measure=>simp[ύ]<;>omega
  ·have j:k=S.length:=by omega
   subst j;go_wp2;go_ret;exact⟨rfl,yx b⟩
def qa(w:ω)(u:Option η)(T:List ByteArray):Prop:=T.length=0\/∃g,u=ς ⟨g,0,ν⟩/\g<w.1.size/\∀k,k<T.length->w.cell? ⟨g,k,ν⟩=ς (τ (T.getD k ⟨#[]⟩))
variable {T:List ByteArray} {u:Option η} {w:ω}
theorem qa.kept{c:ω}(h:qa w u T)(a:δ w.1.size w c):qa c u T:=by
 rcases h with h | ⟨g,e,b,h⟩
 ·exact .inl h
 ·exact .inr ⟨g,e,ϐ b a.size,fun k d=>by rw[a.cell (p:=⟨g,k,ν⟩) b];exact h k d⟩
theorem Gp{B:Nat}{k:Nat}(h:w.ownsRow B 9 1 (σ u T.length k) T.length (T.map .string)):qa w u T/\T.length<=k/\k<=maxLen:=by
 rcases h.2 with ⟨a,d⟩ | ⟨g,b,c,e,o,j,a,f,m,n⟩
 ·injection a with e1 e2 e3;exact⟨.inl d,by omega,by rw[e3];exact Nat.zero_le _⟩
 ·injection e with e1 e2 e3;subst e1 e3;refine⟨.inr ⟨g,rfl,(Array.getElem?_eq_some_iff.1 j).1,fun i l=>?_⟩,a,f⟩;rw[World.ownsRow.cellAt h i (by omega),List.getElem?_map,ϑ,ϒ l];rfl
theorem Cw(x:ByteArray)(w:ω):(binOp .neq 9 (τ x) (τ x)).run prog w=.ok (β φ) w:=by
 simp[go_sem]
theorem qB(T:List ByteArray)(a n:Option η)(c z:Nat)(w:ω)(G:T.length<=1048576)(s:qa w a T)(d:qa w n T):
  χ prog 23 #[σ a T.length c,σ n T.length z] w fun e C=>e=ρ (β θ)/\δ w.1.size w C:=by
 have H:=Cw;have y:=yz s;have HS':=yz d;clear s d;go_enter func23,ntmps23;go_wp2;go_loopw [5] (fun i wr=>∃k:Nat,k<=T.length/\i=J Z k/\Hid (δ w.1.size w wr)) (fun i _=>T.length-(ύ i).toNat)
 case atStart=>exact⟨0,by omega,rfl,yz (ϔ _ _)⟩
 case round=>
  obtain⟨k,F,rfl,b⟩:=hrel;by_cases f:k<T.length
  ·have t:(k:Int)<(T.length:Int):=by omega
   have A:∃g,a=ς ⟨g,0,ν⟩/\wr.cell? ⟨g,k,ν⟩=ς (τ (T.getD k ⟨#[]⟩)):=by
    rcases(yx y).kept (yx b) with h | ⟨g,e,_,h⟩
    ·omega
    ·exact⟨g,e,h k f⟩
   have B:∃g,n=ς ⟨g,0,ν⟩/\wr.cell? ⟨g,k,ν⟩=ς (τ (T.getD k ⟨#[]⟩)):=by
    rcases(yx HS').kept (yx b) with h | ⟨g,e,_,h⟩
    ·omega
    ·exact⟨g,e,h k f⟩
   obtain⟨g,rfl,p⟩:=A;obtain⟨E,rfl,q⟩:=B;generalize T.getD k ⟨#[]⟩=x at *;have u:=ϊ p;have v:=ϊ q;try dsimp only at u v
   clear p q;go_wp2_with fail;refine de ?_;repeat (go_big_quiet_step (fail))
   refine di fun r l=>?_;have o:=ak (yx b) (ό wr r l);generalize grow (redrawn wr r) l=D at o ⊢;have m:=yz o;clear o b u v;go_wp2;go_roundw
   case rel=>exact⟨k+1,by omega,by go_num,m⟩
   case measure=>simp[ύ]<;>omega
  ·have j:k=T.length:=by omega
   subst j;go_wp2;go_ret;exact⟨rfl,yx b⟩
theorem kt(S:List D3)(d A B C D i f k j:Int)(g:ByteArray)(a l:Option η)(c m:Nat)(w:ω)(E:S.length<=1048576)(t:bu w a S S.length)(n:bu w l S S.length):
  χ prog 17 #[κ #[J Z d,J Z A,J Z B,J Z C,J Z D,σ a S.length c,J Z i,J Z f,τ g,J Z k,J Z j],κ #[J Z d,J Z A,J Z B,J Z C,J Z D,σ l S.length m,J Z i,J Z f,τ g,J Z k,J Z j]] w fun e F=>e=ρ (β θ)/\δ w.1.size w F:=by
 have I:=oU;have H:=DV i f g;have b:=aJ w (ξ #[J Z d,J Z A,J Z B,J Z C,J Z D,σ a S.length c,J Z i,J Z f,τ g,J Z k,J Z j] 29) (ξ #[J Z d,J Z A,J Z B,J Z C,J Z D,σ l S.length m,J Z i,J Z f,τ g,J Z k,J Z j] 29);have p:=yz ((aq w [J Z d,J Z A,J Z B,J Z C,J Z D,σ a S.length c,J Z i,J Z f,τ g,J Z k,J Z j] 29).alloc (ξ #[J Z d,J Z A,J Z B,J Z C,J Z D,σ l S.length m,J Z i,J Z f,τ g,J Z k,J Z j] 29));have q:Hid (Blk ((w.alloc (ξ #[J Z d,J Z A,J Z B,J Z C,J Z D,σ a S.length c,J Z i,J Z f,τ g,J Z k,J Z j] 29)).alloc (ξ #[J Z d,J Z A,J Z B,J Z C,J Z D,σ l S.length m,J Z i,J Z f,τ g,J Z k,J Z j] 29)) (w.1.size+1) [J Z d,J Z A,J Z B,J Z C,J Z D,σ l S.length m,J Z i,J Z f,τ g,J Z k,J Z j] 29):=yz (by have h:=aq (w.alloc (ξ #[J Z d,J Z A,J Z B,J Z C,J Z D,σ a S.length c,J Z i,J Z f,τ g,J Z k,J Z j] 29)) [J Z d,J Z A,J Z B,J Z C,J Z D,σ l S.length m,J Z i,J Z f,τ g,J Z k,J Z j] 29;simpa using h);have s:=yz (Cq S a l c m _ E (t.kept b) (n.kept b));have r:=yz b;clear t n b;go_enter func17,ntmps17;go_upto_region 1 with fail;generalize (w.alloc (ξ #[J Z d,J Z A,J Z B,J Z C,J Z D,σ a S.length c,J Z i,J Z f,τ g,J Z k,J Z j] 29)).alloc (ξ #[J Z d,J Z A,J Z B,J Z C,J Z D,σ l S.length m,J Z i,J Z f,τ g,J Z k,J Z j] 29)=W at *;have u:=bV (yx p);have v:=bV (yx q);go_wp2_with fail;refine(yx s).mono ?_;rintro e G ⟨rfl,o⟩;clear u v;have x:=ap p o;have y:=ap q o;have z:=aB r o;clear o p q r s;have u:=bV (yx x);have v:=bV (yx y);go_wp2;go_ret;exact⟨rfl,yx z⟩
end
section
variable {s t:ByteArray} {b q:Nat} {w w':ω}
theorem se{p:Nat}:∀(k i u:Nat) {c:Int},bU s p k i u=.error c->c=3\/c=4
 | 0,i,u,c,h=>by simp[bU]at h;exact .inl h.symm
 | k+1,i,u,c,h=>by
  rw[bU]at h;split at h
  ·exact .inr (Except.error.inj h).symm
  ·split at h
   ·exact .inl (Except.error.inj h).symm
   ·split at h
    ·split at h
     ·exact .inl (Except.error.inj h).symm
     ·cases h
    ·exact se k (i+1) _ h
theorem Jg(b:s.size<=8000):∃x y z:Int,mo s (q:Int)=κ #[J Z x,J Z y,J Z z] /\
  ((aT s q=ν/\z≠0)\/∃n a,aT s q=ς (n,a)/\x=n/\y=(a:Int)/\z=0):=by
 have e:dj s (q:Int)=bU s q 10 0 0:=by unfold dj;rw[if_neg (by omega)];rfl
 unfold mo aT;rw[if_neg (by omega),e];cases h:bU s q 10 0 0 with
 | error c=>exact⟨0,0,c,rfl,.inl ⟨rfl,by have:=se 10 0 0 h;omega⟩⟩
 | ok x=>exact⟨_,_,0,rfl,.inr ⟨_,_,rfl,rfl,rfl,rfl⟩⟩
def fQ(w:ω)(b:Nat)(t:ByteArray)(q:Nat)(bad:Bool):Prop:=w.cell? ⟨b,0,ν⟩=ς (τ t)/\w.cell? ⟨b,1,ν⟩=ς (J Z (q:Int))/\w.cell? ⟨b,2,ν⟩=ς (β bad)/\w.frozen? ⟨b,1,ν⟩=φ/\w.frozen? ⟨b,2,ν⟩=φ
theorem fQ.lt{bad:Bool}(h:fQ w b t q bad):b<w.1.size:=World.block_lt_of_cell? w _ h.1
theorem fQ.kept{bad:Bool}(h:fQ w b t q bad)(a:δ w.1.size w w'):fQ w' b t q bad:=by
 have c:=h.lt;obtain⟨f,g,i,d,e⟩:=h;exact⟨by rw[a.cell (p:=⟨b,0,ν⟩) c];exact f,by rw[a.cell (p:=⟨b,1,ν⟩) c];exact g,by rw[a.cell (p:=⟨b,2,ν⟩) c];exact i,by rw[a.frozen (p:=⟨b,1,ν⟩) c];exact d,by rw[a.frozen (p:=⟨b,2,ν⟩) c];exact e⟩
theorem fQ.grown{c:Bool}{d:Option Nat}(h:fQ w b t q c)(f:w.grownBy w' d)(a:ς b≠d):fQ w' b t q c:=by
 have m:=h.lt;obtain⟨j,k,l,g,i⟩:=h;have e:=f.block b m a;exact⟨f.cell j a,f.cell k a,f.cell l a,by rw[World.frozen?_of_block (w:=w) e];exact g,by rw[World.frozen?_of_block (w:=w) e];exact i⟩
theorem fQ.bad{bad:Bool}(h:fQ w b t q bad)(y:Bool):fQ (w.setCell ⟨b,2,ν⟩ (β y)) b t q y:=by
 obtain⟨d,e,f,a,c⟩:=h;refine⟨?_,?_,?_,?_,?_⟩
 ·go_simp
 ·go_simp
 ·go_simp
 ·simp only[World.frozen?_setCell];exact a
 ·simp only[World.frozen?_setCell];exact c
theorem fQ.at{bad:Bool}(h:fQ w b t q bad)(a:Nat):fQ (w.setCell ⟨b,1,ν⟩ (J Z (a:Int))) b t a bad:=by
 obtain⟨e,f,g,c,d⟩:=h;refine⟨?_,?_,?_,?_,?_⟩
 ·go_simp
 ·go_simp
 ·go_simp
 ·simp only[World.frozen?_setCell];exact c
 ·simp only[World.frozen?_setCell];exact d
def aP(t:ByteArray)(q:Nat)(bad:Bool):Int×Nat×Bool:=if bad=θ then (0,q,θ) else match aT t q with | none=>(0,q,θ) | some (n,q')=>(n,q',φ)
theorem pe{wr a:ω}{c:Bool}(d:fQ wr b t q c)(h:δ wr.1.size wr a):
  (a.cell? ⟨b,0,ν⟩=ς (τ t)/\a.cell? ⟨b,1,ν⟩=ς (J Z (q:Int)))/\δ wr.1.size wr a:=⟨⟨(d.kept h).1,(d.kept h).2.1⟩,h⟩
theorem qF(b:Nat)(t:ByteArray)(q:Nat)(bad:Bool)(w:ω)(I:t.size<=8000)(R:q<=8000)(A:fQ w b t q bad):
  χ prog 62 #[π (ς ⟨b,0,ν⟩)] w fun e c=>e=ρ (J Z (aP t q bad).1)/\fQ c b t (aP t q bad).2.1 (aP t q bad).2.2/\w.grownBy c (ς b):=by
 have g:=yz A;clear A;obtain⟨x,y,z,B,k⟩:=Jg (q:=q) I;have H:=yz k;have u:Hid (∀W:ω,χ prog 100 #[τ t,J Z (q:Int)] W fun e c=>e=ρ (κ #[J Z x,J Z y,J Z z])/\δ W.1.size W c):=yz (fun W=>(kB t (q:Int) W (by omega) (by omega)).mono fun e c h=>⟨by rw[h.1,B],h.2⟩);clear B k;go_enter func62,ntmps62;go_wp2_with fail;go_cut [3] (fun s G=>∃o,s=π (ς ⟨o,0,ν⟩)/\aI G o x y z/\δ w.1.size w G)
 case first=>
  go_region_held (fun c=>(c.cell? ⟨b,0,ν⟩=ς (τ t)/\c.cell? ⟨b,1,ν⟩=ς (J Z (q:Int)))/\δ w.1.size w c) (first | exact pe (yx g) (ϔ _ _).drew | exact pe (yx g) (ze (by assumption) _) | exact pe (yx g) (by assumption) | exact pe (yx g) (mJ (by assumption) _) | exact pe (yx g) (Do (by assumption) (by first | exact ώ _ | exact Below.size (by assumption)) _ _ _)) ((go_at_call 100;refine(yx u _).mono ?_;rintro e N ⟨rfl,f⟩;have S:=Dk (w1:=w) f (by assumption);first | (have j:Gu N w.1.size:=LG f;have a:=j;obtain⟨⟨D,E,F⟩,v,p,r⟩:=a) | (have j:=MX f;have a:=j;obtain⟨⟨D,E,F⟩,v,p,r⟩:=a) | (have j:=LC (by assumption) f;have a:=j;obtain⟨⟨D,E,F⟩,v,p,r⟩:=a) | skip))
  all_goals (go_wp2;go_meet;refine⟨_,rfl,?_,?_⟩)
  all_goals first | (with_reducible exact aK _ _ _ _ _) | (with_reducible exact mJ (by assumption) _) | (with_reducible exact Fi (by assumption) _ _ _) | (with_reducible exact sC (by assumption) (by first | exact ώ _ | exact Below.size (by assumption)) _ _ _) | trace_state
 case rest=>
  obtain⟨o,rfl,M,f⟩:=hcut;have l:=ap g f;have m:=yz (zT (b:=b) f);obtain⟨T,U,V⟩:=M;obtain⟨O,P,Q,p,r⟩:=yx l;clear f u;cases bad
  ·rcases yx H with ⟨i,k⟩ | ⟨n,C,i,rfl,rfl,rfl⟩
   ·have d:Hid (aP t q φ=(0,q,θ)):=yz (by unfold aP;rw[i];rfl);have K:(z==0)=φ:=by simp[k]
    have L:(z != 0)=θ:=by simp[k]
    clear i;go_wp2;go_ret;exact⟨by rw[yx d];rfl,by rw[yx d];exact(yx l).bad θ,fN (yx m) _ _⟩
   ·have d:Hid (aP t q φ=(x,C,φ)):=yz (by unfold aP;rw[i];rfl);clear i;go_wp2;go_ret;exact⟨by rw[yx d];rfl,by rw[yx d];exact(yx l).at C,fN (yx m) _ _⟩
  ·have d:Hid (aP t q θ=(0,q,θ)):=yz rfl;go_wp2;go_ret;exact⟨by rw[yx d];rfl,by rw[yx d];exact(yx l).bad θ,fN (yx m) _ _⟩
end
section
def qC(t:ByteArray)(q:Nat)(bad:Bool)(most:Int):Int×Nat×Bool:=
  if 0<=(aP t q bad).1/\(aP t q bad).1<=most then aP t q bad else (0,(aP t q bad).2.1,θ)
theorem JC(b:Nat)(t:ByteArray)(q:Nat)(c:Bool)(a:Int)(w:ω)(s:t.size<=8000)(r:q<=8000)(k:fQ w b t q c):
    χ prog 63 #[π (ς ⟨b,0,ν⟩),J Z a] w fun e p=>e=ρ (J Z (qC t q c a).1)/\fQ p b t (qC t q c a).2.1 (qC t q c a).2.2/\w.grownBy p (ς b):=by
  have j:=yz (qF b t q c w s r k);have d:Hid (qC t q c a=if 0<=(aP t q c).1/\(aP t q c).1<=a then aP t q c else (0,(aP t q c).2.1,θ)):=yz rfl;clear k;generalize qC t q c a=C at *;generalize aP t q c=u at *;obtain⟨n,D,bad'⟩:=u;go_enter func63,ntmps63;go_wp2_with fail;refine(yx j).mono ?_;rintro e E ⟨rfl,m,l⟩;have f:=yz m;have i:=yz l;clear m l j;go_wp2_with fail;refine(bP n 0 a _).mono ?_;rintro e v ⟨rfl,o⟩;rw[o];clear o v;obtain⟨x,y,z,A,B⟩:=yx f;by_cases h:0<=n/\n<=a
  · rw[if_pos h]at d
    have g:(decide (0<=n)&&decide (n<=a))=θ:=by simp[h.1,h.2]
    rw[g];go_wp2;go_ret;exact⟨by rw[yx d];rfl,by rw[yx d];exact yx f,yx i⟩
  · rw[if_neg h]at d
    have g:(decide (0<=n)&&decide (n<=a))=φ:=by
      rw[Bool.and_eq_false_iff,decide_eq_false_iff_not,decide_eq_false_iff_not];omega
    rw[g];go_wp2;go_ret;exact⟨by rw[yx d];rfl,by rw[yx d];exact(yx f).bad θ,fN (yx i) _ _⟩
def gV(t:ByteArray)(q:Nat)(bad:Bool):(Int×Int×Int)×Nat×Bool:=
  ((( aP t q bad).1,(aP t (aP t q bad).2.1 (aP t q bad).2.2).1,(aP t (aP t (aP t q bad).2.1 (aP t q bad).2.2).2.1 (aP t (aP t q bad).2.1 (aP t q bad).2.2).2.2).1),
   (aP t (aP t (aP t q bad).2.1 (aP t q bad).2.2).2.1 (aP t (aP t q bad).2.1 (aP t q bad).2.2).2.2).2)
variable {t:ByteArray} {x z:Int} {b c i q:Nat} {v:μ} {w w':ω}
theorem aI.grownF{y:Int}{c:Option Nat}(h:aI w b x y z)(d:w.grownBy w' c)(a:ς b≠c):aI w' b x y z:=
  ⟨d.cell h.1 a,d.cell h.2.1 a,d.cell h.2.2 a⟩
theorem dI.grownF{a:Option Nat}(h:dI w b)(d:b<w.1.size)(f:w.grownBy w' a)(c:ς b≠a):dI w' b:=by
  have e:=f.block b d c;exact⟨by rw[World.frozen?_of_block (w:=w) e];exact h.1,by rw[World.frozen?_of_block (w:=w) e];exact h.2.1,by rw[World.frozen?_of_block (w:=w) e];exact h.2.2⟩
theorem kS{bad:Bool}(b:t.size<=8000)(a:q<=8000):(aP t q bad).2.1<=8000:=by
  unfold aP;split
  · exact a
  · cases h:aT t q with
    | none=>exact a
    | some x=>exact Ϗ (bg (n:=x.1) (q:=x.2) (by rw[h])).2 b
theorem fQ.set{bad:Bool}(h:fQ w b t q bad)(a:c≠b):fQ (w.setCell ⟨c,i,ν⟩ v) b t q bad:=by
  obtain⟨g,j,k,d,f⟩:=h;have l:b≠c:=fun e=>a e.symm;refine⟨?_,?_,?_,?_,?_⟩
  · rw[World.cell?_setCell_far _ _ _ _ a];exact g
  · rw[World.cell?_setCell_far _ _ _ _ a];exact j
  · rw[World.cell?_setCell_far _ _ _ _ a];exact k
  · simp only[World.frozen?_setCell];exact d
  · simp only[World.frozen?_setCell];exact f
theorem qr{b:ω}{a:Option Nat}(h:w.grownBy b a)(f:w.1.size<=c):w.grownBy (b.setCell ⟨c,i,ν⟩ v) a:=
  ⟨h.os,h.tape,h.output,by simpa using h.size,fun k d e=>by rw[Below.heap_setCell _ _ _ _ (show k≠c by omega)];exact h.block k d e⟩
theorem aI.set1{y:Int}(h:aI w b x y z)(u:Int):aI (w.setCell ⟨b,1,ν⟩ (J Z u)) b x u z:=by
  obtain⟨a,c,d⟩:=h;refine⟨?_,?_,?_⟩<;>simp[go_sem,a,c,d]
theorem aI.far{y:Int}(h:aI w b x y z)(a:c≠b):aI (w.setCell ⟨c,i,ν⟩ v) b x y z:=
  ⟨by rw[World.cell?_setCell_far _ _ _ _ a];exact h.1,by rw[World.cell?_setCell_far _ _ _ _ a];exact h.2.1,by rw[World.cell?_setCell_far _ _ _ _ a];exact h.2.2⟩
theorem dI.set{a:η}(h:dI w b):dI (w.setCell a v) b:=by
  unfold dI;simp only[World.frozen?_setCell];exact h
theorem Ia(b:Nat)(t:ByteArray)(q:Nat)(d:Bool)(w:ω)(p:t.size<=8000)(hq:q<=8000)(D:fQ w b t q d):
    χ prog 64 #[π (ς ⟨b,0,ν⟩)] w fun e w'=>e=ρ (κ #[J Z (gV t q d).1.1,J Z (gV t q d).1.2.1,J Z (gV t q d).1.2.2])/\fQ w' b t (gV t q d).2.1 (gV t q d).2.2/\w.grownBy w' (ς b):=by
  have hb:=yz D.lt;have S:Hid (gV t q d=gV t q d):=yz rfl;generalize o:gV t q d=vv at S ⊢;unfold gV at o;have G:=kS (bad:=d) p hq;have T:=yz (D.kept (an w (ξ #[J Z 0,J Z 0,J Z 0] 93)));have Y:=yz (qF b t q d (w.alloc (ξ #[J Z 0,J Z 0,J Z 0] 93)) p hq (yx T));have O:Hid (w.grownBy (w.alloc (ξ #[J Z 0,J Z 0,J Z 0] 93)) (ς b)):=yz (zT (an w _));have H:=yz (aK w 0 0 0 93);have K:=yz (dD w 0 0 0 93);clear D T S;generalize aP t q d=n1 at *;obtain⟨x,q1,j⟩:=n1;simp only at G o;have l2:=kS (bad:=j) p G;have h:Hid (ς w.1.size≠ς b):=yz (by have:=yx hb;simp;omega);go_enter func64,ntmps64;go_wp2_with fail;refine(yx Y).mono ?_;rintro e k ⟨rfl,m,f⟩;have P:=yz (ud (yx O) f);have s:=yz ((yx H).grownF f (yx h));have L:=yz ((yx K).grownF (by simp) f (yx h));have A:=yz m;clear m f Y O H K;have hc:b<k.1.size:=(yx A).lt;have ha:w.1.size<k.1.size:=aI.lt' (yx s);have n:=yz (an k (ξ #[J Z x,J Z 0,J Z 0] 93));have U:=ap A (yx n);have Q:=yz (ud (yx P) (zT (b:=b) (yx n)));have I:=yz ((yx s).kept ha (yx n));have M:=yz ((yx L).kept ha (yx n));have r:=yz (aK k x 0 0 93);have B:=yz (dD k x 0 0 93);have ac:k.1.size<(k.alloc (ξ #[J Z x,J Z 0,J Z 0] 93)).1.size:=aI.lt' (yx r);clear A P s L n;go_wp2_with fail;generalize k.alloc (ξ #[J Z x,J Z 0,J Z 0] 93)=W2 at *;generalize k.1.size=c at *;have c2:=yz (qF b t q1 j W2 p G (yx U));generalize aP t q1 j=n2 at *;obtain⟨y,q2,l⟩:=n2;simp only at l2 o;have g:Hid (ς c≠ς b):=yz (by simp;omega);refine(yx c2).mono ?_;rintro e w3 ⟨rfl,m,f⟩;have R:=yz (qr (c:=c) (i:=1) (v:=J Z y) (ud (yx Q) f) (by omega));have u:=yz (((yx I).grownF f (yx h)).far (c:=c) (i:=1) (v:=J Z y) (by omega));have N:=yz (((yx M).grownF (by omega) f (yx h)).set (a:=⟨c,1,ν⟩) (v:=J Z y));obtain⟨v0,v1,v2⟩:=(yx r).grownF f (yx g);obtain⟨u0,u1,u2⟩:=(yx B).grownF (by omega) f (yx g);have V3:=yz (((yx r).grownF f (yx g)).set1 y);have W:=yz (((yx B).grownF (by omega) f (yx g)).set (a:=⟨c,1,ν⟩) (v:=J Z y));have V:=yz (m.set (c:=c) (i:=1) (v:=J Z y) (by omega));clear m f c2 Q I M r B U;go_wp2_with fail;clear v0 v1 v2 u0 u1 u2;generalize w3.setCell ⟨c,1,ν⟩ (J Z y)=C at *;have c3:=yz (qF b t q2 l C p l2 (yx V));generalize aP t q2 l=n3 at *;obtain⟨z,q3,X⟩:=n3;simp only at o;subst o;have E:c<C.1.size:=aI.lt' (yx V3);have F:w.1.size<C.1.size:=aI.lt' (yx u);refine(yx c3).mono ?_;rintro e w4 ⟨rfl,m,f⟩;have G4:=yz (qr (c:=c) (i:=2) (v:=J Z z) (ud (yx R) f) (by omega));obtain⟨a0,a1,a2⟩:=(yx u).grownF f (yx h);obtain⟨f0,f1,f2⟩:=(yx N).grownF F f (yx h);obtain⟨v0,v1,v2⟩:=(yx V3).grownF f (yx g);obtain⟨u0,u1,u2⟩:=(yx W).grownF E f (yx g);have R4:=yz (m.set (c:=c) (i:=2) (v:=J Z z) (by omega));have ab:Hid (c≠w.1.size):=yz (by omega);have aa:=yx hb;clear m f c3 R u N V3 W V;have n0:w.1.size≠c:=by omega
  go_wp2;exact ϋ (v:=κ #[J Z x,J Z y,J Z z]) (by simp[results,results64,go_sem,a0,a1,a2]) rfl ⟨rfl,(((yx R4).set (by omega)).set (by omega)).set (by omega),qr (qr (qr (yx G4) (by omega)) (by omega)) (by omega)⟩
end
end Go.Proofs.YtnnhjegapofopaaGreatDoor
