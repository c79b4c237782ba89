import Derived.Maps.AppendAt
import Derived.Deep.CutRange
import Derived.Test.YtnnhjegapofopaaGreatDoorM13
import Derived.Test.YtnnhjegapofopaaGreatDoorM9
namespace Go.Proofs.YtnnhjegapofopaaGreatDoor
set_option linter.all false
set_option maxRecDepth 100000
set_option maxHeartbeats 8000000
open Go.RowKit Go.Sort Go.Proofs.Tryz
open Go.Value renaming int -> J,slice -> σ,string -> τ,agg -> κ,pointer -> π,bool -> β
open Go.Obj renaming cells -> ξ
open Go.Ending renaming returned -> ρ
open Go renaming World -> ω,Value -> μ,Calls -> χ,Addr -> η,cell_regrown -> ϊ,bodyPost_ret -> ϋ,below_regrown -> ό
open Go.RowKit renaming Below -> δ,wrap64 -> ύ,intOf -> ώ
open Option renaming none -> ν,some -> ς
open Bool renaming true -> θ,false -> φ
open Option.some renaming inj -> Ϗ
open Nat renaming le_refl -> ϐ,le_trans -> ϑ,lt_of_lt_of_le -> ϒ,zero_le -> ϓ
open List renaming getElem?_eq_getElem -> ϔ,length_append -> ϕ
open Go.RowKit.Below renaming refl -> ϖ
open Go.IntKind renaming i64 -> Z
section
open Go.RowKit Go.Sort Go.Shelf
attribute [local go_sem] Oper.semAt_some
theorem Lf(a:Int):ύ (ύ a+1)=ύ (a+1):=by unfold ύ;omega
theorem Iy(a:Nat):ύ (ύ (a:Int)+1)=ύ ((a+1:Nat):Int):=by rw[Lf];rfl
variable {l p q x:Nat} {t:TypeId} {W:ω}
theorem ni{v:μ}(h:W.heap[p]? = ς (ξ #[v] t (0,0))):W.cell? ⟨p,0,ν⟩=ς v/\W.frozen? ⟨p,0,ν⟩=φ:=by
 constructor<;>simp[World.cell?,World.frozen?,h]
theorem FJ{o d:Obj}(h:W.heap[l]? = ς o)(f:o.isCells=φ)(g:o.isWalk=φ):KpX p q W (W.putObj l d):=
 ⟨by simp,rfl,rfl,rfl,fun k i a c _ _=>by
  have b:k≠l:=fun e=>by subst e;rw[h]at a;cases a;rcases c with c | c<;>simp_all
  exact(World.putObj_heap_other b).trans a⟩
theorem Ac(W:ω)(v:μ)(b:x=p\/x=q):KpX p q W (W.setCell ⟨x,0,ν⟩ v):=
 ⟨by simp,rfl,rfl,rfl,fun k o a _ c d=>by rw[Below.heap_setCell W ⟨x,0,ν⟩ v k (by show k≠x;rcases b with rfl | rfl<;>assumption)];exact a⟩
theorem zy{u:μ}(h:W.heap[x]? = ς (ξ #[u] t (0,0)))(v:μ):(W.setCell ⟨x,0,ν⟩ v).heap[x]? = ς (ξ #[v] t (0,0)):=by
 have:=heap_setCell_same W x 0 #[u] t v h;simpa using this
theorem jk{k:Nat}{o:Obj}(h:W.heap[k]? = ς o)(a:k≠x)(v:μ):(W.setCell ⟨x,0,ν⟩ v).heap[k]? = ς o:=by rw[Below.heap_setCell W ⟨x,0,ν⟩ v k a];exact h
theorem AB{g m:Nat}{f:Nat->μ}(h:cu W t g m f)(b:g≠x)(v:μ):cu (W.setCell ⟨x,0,ν⟩ v) t g m f:=by
 obtain⟨a,c,d⟩:=h;exact⟨a,jk c b v,d⟩
theorem sd{d:Nat}{a i:Loop}{w V b:ω}{c:List (List Int)}{D:List Int}(j:GrJ p q l d a w c W)(B:W.putObj l (.loop i)=V)(u:({ i with state:=.ready,pending:=ν }:Loop)=a)(g:w.1.size<=l)(r:l≠d)
  (E:AW b p q (et (c.foldl et ([],0)) D)) (n:b.heap[l]? = ς (.loop i)) (F:b.heap[d]? = ς (.deferred (ς []))) (A:δ w.1.size V b) (m:KpX p q V b) :
  ∃v x,(Instr.endRound l ν).run prog b=.ok v x/\(Ending.returned v=ρ (β θ)/\GrJ p q l d a w (c ++ [D]) x/\KpX p q W x):=by
 have C:=run_endRound (P:=prog) ν n;have h:({ i with state:=if (ν:Option Code).isNone then .ready else .done,pending:=ν }:Loop)=a:=u;rw[h]at C;have o:=grownBy_putObj' b l (.loop a);have s:∀k z t f,b.heap[k]? = ς (ξ z t f)->ς k≠ς l:=fun k z t f m e=>by have:=Ϗ e;rw[this,n]at m;cases m
 refine⟨_,_,C,rfl,⟨?_,World.putObj_heap_same (Array.getElem?_eq_some_iff.1 n).1,dY F o (fun e=>r (Ϗ e).symm),?_⟩,?_⟩
 ·rw[List.foldl_append];exact E.grown o s
 ·have y:δ w.1.size W V:=B ▸ ((ϖ w.1.size W).grown (grownBy_putObj' W l (.loop i)) j.bel.size (fun k e=>by cases e;exact g));exact((j.bel.trans y).trans A).trans ((ϖ w.1.size b).grown o (ϑ j.bel.size (ϑ y.size A.size)) (fun k e=>by cases e;exact g))
 ·have G:KpX p q W V:=B ▸ FJ j.rc rfl rfl;exact(G.trans m).trans (FJ n rfl rfl)
theorem zS(L:List St)(S:List D3)(ar br:Option η)(cr dr s1 s2:Nat)(w:ω)(hk:bE L=θ)(hm:S.length<=6)(h1:w.cell? ⟨s1,0,ν⟩=ς (σ ar L.length cr))(h2:w.cell? ⟨s2,0,ν⟩=ς (σ br S.length dr))(hS:aO w ar L L.length)(hD:bu w br S S.length)(hA:∀y,ar=ς y->y.block<w.1.size)(hB:∀y,br=ς y->y.block<w.1.size)(n:Nat):
  CallsIn Fence.wide n prog 199 #[.func (.func 213) #[] #[π (ς ⟨s1,0,ν⟩),π (ς ⟨s2,0,ν⟩)]] w fun e w'=>(∃v,e=ρ (.tuple #[v,J Z (ύ ((eD L S).2:Int))])/\(((eD L S).1=[]/\v=σ ν 0 0)\/∃g,v=σ (ς ⟨g,0,ν⟩) (eD L S).1.length (eD L S).1.length/\w.1.size<=g/\cu w' 2 g ((eD L S).1.length*1) (vW (eD L S).1)))/\δ w.1.size w w'/\(eD L S).1.length<=6:=by
 refine callsIn_of_wp_marks func199 rfl trivial ?_ rfl;simp only[ntmps199,List.size_toArray,List.length_cons,List.length_nil,Nat.reduceAdd,Nat.reduceSub,Array.replicate_succ,Array.replicate_zero,List.push_toArray,List.append_toArray,List.nil_append,List.cons_append];gi_wp2
 have B0:=aJ w (ξ #[σ ν 0 0] 128) (ξ #[J Z 0] 2);have aR:((w.alloc (ξ #[σ ν 0 0] 128)).alloc (ξ #[J Z 0] 2)).1.size=w.1.size+2:=by simp
 have aj:((w.alloc (ξ #[σ ν 0 0] 128)).alloc (ξ #[J Z 0] 2)).heap[w.1.size]? = ς (ξ #[σ ν 0 0] 128 (0,0)):=(Below.heap_alloc _ _ _ (by simp)).trans (World.alloc_heap_new w _)
 have al:((w.alloc (ξ #[σ ν 0 0] 128)).alloc (ξ #[J Z 0] 2)).heap[w.1.size+1]? = ς (ξ #[J Z 0] 2 (0,0)):=by
  have:=World.alloc_heap_new (w.alloc (ξ #[σ ν 0 0] 128)) (ξ #[J Z 0] 2);rw[World.size_alloc]at this;exact this
 generalize F:(w.alloc (ξ #[σ ν 0 0] 128)).alloc (ξ #[J Z 0] 2)=A at *;clear F;refine EF rfl (enters_of func213 (by kernel_rfl) rfl) ?_;intro c r az an X af ag;have B1:δ A.1.size A ((A.alloc (.deferred (ς []))).alloc (.loop c)):=aJ A _ _;have aW:((A.alloc (.deferred (ς []))).alloc (.loop c)).1.size=w.1.size+4:=by simp;omega
 have U:((A.alloc (.deferred (ς []))).alloc (.loop c)).heap[A.1.size+1]? = ς (.loop c):=by
  have:=World.alloc_heap_new (A.alloc (.deferred (ς []))) (.loop c);rw[World.size_alloc]at this;exact this
 have T:((A.alloc (.deferred (ς []))).alloc (.loop c)).heap[A.1.size]? = ς (.deferred (ς [])):=(Below.heap_alloc _ _ _ (by simp)).trans (World.alloc_heap_new A _);generalize aL:(A.alloc (.deferred (ς []))).alloc (.loop c)=W1 at *;clear aL;rw[aR]at U T ⊢;have Bw:=ak B0 B1;have ae:GrJ w.1.size (w.1.size+1) (w.1.size+2+1) (w.1.size+2) c w [] W1:=⟨⟨⟨_,by rw[B1.block _ (by omega)];exact aj,.inl ⟨rfl,rfl⟩⟩,by rw[B1.block _ (by omega),al];exact congrArg (fun z=>ς (Obj.cells #[Value.int .i64 z] 2 (0,0))) (show (0:Int)=ύ 0 from (au (by omega) (by omega)).symm),by simp⟩,U,T,Bw⟩
 refine(Lm L S ar br cr dr (w.1.size+2+1) w.1.size (w.1.size+1) s1 s2 (n-1) (GrJ w.1.size (w.1.size+1) (w.1.size+2+1) (w.1.size+2) c w) W1 hk hm (bY h1 Bw) (bY h2 Bw) (hS.kept Bw) (hD.kept Bw) (fun y e=>by have:=hA y e;omega) (fun y e=>by have:=hB y e;omega) (by omega) (by omega) (fun b hb=>GrJ.abides (by omega)) GrJ.below ?round ae).mono ?behind
 case round=>
  clear ae B1 Bw U T aj al B0;intro m aC x W l F hx Y;obtain⟨i,xg⟩:=x;unfold MV at hx;unfold MW;dsimp only at hx Y F ⊢
  have aw:w.1.size<=xg:=by
   obtain⟨aU,aI,h0⟩:=F;have:=(Array.getElem?_eq_some_iff.1 aI.rc).1;omega
  clear F;refine⟨c.fn,_,c.assign,c.body,run_yield l.rc (by rw[X];rfl),roundIn_of_wpIn trivial ?_⟩;rw[af,ag,an,X];have aM:=l.rc;have av:=run_beginRound (P:=prog) l.rc r;have Q:=grownBy_putObj' W (w.1.size+2+1) (.loop { c with state:=.busy });have ai:∀k cs t f,W.heap[k]? = ς (ξ cs t f)->ς k≠ς (w.1.size+2+1):=fun k cs t f hk e=>by have:=Ϗ e;rw[this,l.rc]at hk;cases hk
  have D:=l.box.grown Q ai;have aq:cu (W.putObj (w.1.size+2+1) (.loop { c with state:=.busy })) 2 xg (i.length*1) (vW i):=by obtain⟨u,R,K⟩:=hx;exact⟨u,dY R Q (ai _ _ _ _ R),K⟩
  have ax:(W.putObj (w.1.size+2+1) (.loop { c with state:=.busy })).heap[w.1.size+2+1]? = ς (.loop { c with state:=.busy }):=World.putObj_heap_same (Array.getElem?_eq_some_iff.1 l.rc).1;have M:=yz D;have HX:=yz aq;have N:=yz ax;have HJ:=yz l;have aT:=yz Q;have ac:Hid (({ ({ c with state:=.busy }:Loop) with state:=.ready,pending:=ν }:Loop)=c):=yz (by cases c;simp_all);clear D aq ax l hx ai Q aM af ag an X az r;generalize aP:({ c with state:=.busy }:Loop)=rb at *;clear aP;have cN:=yz (fun (j:Nat)=>CallsIn.inRound (w.1.size+2+1) ((callsIn_wide (n:=j)).2 (iH i (ς ⟨xg,0,ν⟩) i.length _ (by omega) (qG (yx HX)))));gi_wp2
  refine⟨trivial,fun h=>(by cases h),?_⟩;refine(yx cN _).mono ?_;rintro e O ⟨rfl,aK⟩;generalize hV:W.putObj (w.1.size+2+1) (.loop rb)=V at *;subst aK;obtain⟨G,hG⟩:∃G,aC.foldl et ([],0)=G:=⟨_,rfl⟩
  rw[hG]at M;have HG:=yz hG;clear hG av cN;obtain⟨q,B⟩:=G;obtain⟨⟨vm,s,d⟩,a,H⟩:=yx M;dsimp only at d a H;have ab:Hid (O.heap[w.1.size+2]? = ς (.deferred (ς []))):=yz (by rw[<-hV];exact dY (yx HJ).df (grownBy_putObj' W _ _) (fun e=>by have:=Ϗ e;omega));have aS:w.1.size+4<=O.1.size:=by have:=(Array.getElem?_eq_some_iff.1 (yx N)).1;omega
  obtain⟨am,cm,aQ,ay⟩:∃am cm,vm=σ am q.length cm/\jx O am q q.length:=by
   rcases d with ⟨e1,e2⟩ | ⟨g,e,_,_,_,K⟩
   ·exact⟨ν,0,by rw[e1,e2];rfl,.inl (by rw[e1];rfl)⟩
   ·exact⟨_,_,e,qG K⟩
  subst aQ;have HM:=yz d;have ad:=yz s;have aa:=yz a;obtain⟨m0,m1⟩:=ni s;obtain⟨a0,a1⟩:=ni a;have cM:=yz (fun (j:Nat)=>CallsIn.inRound (w.1.size+2+1) ((callsIn_wide (n:=j)).2 (iH q am cm O (by omega) ay)));have C:Hid (et (q,B) i=(q,B)->∃v w',(Instr.endRound (w.1.size+2+1) ν).run prog O=.ok v w'/\(Ending.returned v=ρ (β θ)/\GrJ w.1.size (w.1.size+1) (w.1.size+2+1) (w.1.size+2) c w (aC ++ [i]) w'/\KpX w.1.size (w.1.size+1) W w')):=yz (fun e=>sd (yx HJ) hV (yx ac) (by omega) (by omega) (by rw[yx HG,e];exact yx M) (yx N) (yx ab) (ϖ _ _) ⟨ϐ _,rfl,rfl,rfl,fun _ _ h _ _ _=>h⟩);clear d s a ay;by_cases c3:bd i<3
  ·have aF:(bd i:Int)<3:=by omega
   gi_wp2
   refine⟨trivial,?_⟩;gi_wp2
   exact yx C (by unfold et;rw[if_pos (.inl c3)])
  have aF:¬(bd i:Int)<3:=by omega
  gi_wp2
  refine⟨trivial,fun h=>(by cases h),?_⟩;refine(yx cM _).mono ?_;rintro e V2 ⟨rfl,E⟩;rw[E];clear E V2;by_cases c4:bd i<bd q
  ·have aG:(bd i:Int)<(bd q:Int):=by omega
   gi_wp2
   exact yx C (by unfold et;rw[if_pos (.inr c4)])
  have aG:¬(bd i:Int)<(bd q:Int):=by omega
  gi_wp2
  refine⟨trivial,fun h=>(by cases h),?_⟩;refine(yx cM _).mono ?_;rintro e V2 ⟨rfl,E⟩;rw[E];clear E V2;have aV:3<=i.length:=by have:=oc i;omega
  have aA:xg≠w.1.size:=fun e=>by
   obtain⟨u,R,_⟩:=yx HX;have h5:=yx ad;rw[<-e,R]at h5;simp at h5
  have aB:xg≠w.1.size+1:=fun e=>by
   obtain⟨u,R,K⟩:=yx HX;have h5:=yx aa;rw[<-e,R]at h5;simp at h5;have h6:=K 1 (by omega);rw[h5]at h6;simp at h6
  by_cases c5:bd q<bd i
  ·have aH:(bd q:Int)<(bd i:Int):=by omega
   gi_wp2
   have r:et (q,B) i=(i,1):=by unfold et;dsimp only;rw[if_neg (by rintro (h | h)<;>omega),if_pos c5]
   refine sd (yx HJ) hV (yx ac) (by omega) (by omega) ?_ (jk (jk (yx N) (by omega) _) (by omega) _) (jk (jk (yx ab) (by omega) _) (by omega) _) (((ϖ w.1.size O).setCell (p:=⟨w.1.size,0,ν⟩) (ϐ _) _).setCell (p:=⟨w.1.size+1,0,ν⟩) (by show w.1.size<=w.1.size+1;omega) _) ((Ac O _ (.inl rfl)).trans (Ac _ _ (.inr rfl)));rw[yx HG,r];refine⟨⟨_,jk (zy (yx ad) _) (by omega) _,.inr ⟨xg,rfl,aw,aA,aB,AB (AB (yx HX) aA _) aB _⟩⟩,?_,Y⟩;have h7:=zy (jk (x:=w.1.size) (yx aa) (by omega) (Value.slice (ς ⟨xg,0,ν⟩) i.length i.length)) (Value.int .i64 1);rw[show ύ (((i,1):List Int×Nat).2:Int)=1 from au (n:=1) (by omega) (by omega)];exact h7
  ·have aH:¬(bd q:Int)<(bd i:Int):=by omega
   gi_wp2
   have r:et (q,B) i=(q,B+1):=by unfold et;dsimp only;rw[if_neg (by rintro (h | h)<;>omega),if_neg c5]
   refine sd (yx HJ) hV (yx ac) (by omega) (by omega) ?_ (jk (yx N) (by omega) _) (jk (yx ab) (by omega) _) ((ϖ w.1.size O).setCell (p:=⟨w.1.size+1,0,ν⟩) (by show w.1.size<=w.1.size+1;omega) _) (Ac O _ (.inr rfl));rw[yx HG,r];refine⟨⟨_,jk (yx ad) (by omega) _,?_⟩,?_,H⟩
   ·rcases yx HM with h | ⟨g,e,n0,n1,n2,K⟩
    ·exact .inl h
    ·exact .inr ⟨g,e,n0,n1,n2,AB K n2 _⟩
   ·have h7:=zy (yx aa) (Value.int .i64 (ύ (ύ (B:Int)+1)));rw[h7]
    have e8:ύ (ύ (B:Int)+1)=ύ (((q,B+1):List Int×Nat).2:Int):=by
     show ύ (ύ (B:Int)+1)=ύ ((B+1:Nat):Int);exact Iy B
    rw[e8]
 case behind=>
  rintro e W' ⟨⟨v,rfl⟩,l⟩;refine⟨⟨_,rfl⟩,l.rc,?_⟩;have I:∀k cs t f,W'.heap[k]? = ς (ξ cs t f)->ς k≠ς (w.1.size+2+1):=fun k cs t f hk e=>by have:=Ϗ e;rw[this,l.rc]at hk;cases hk
  have D:=fun o=>l.box.grown (grownBy_putObj' W' (w.1.size+2+1) o) I;have M:=yz D;have ap:=yz (fun o=>dY l.df (grownBy_putObj' W' (w.1.size+2+1) o) (fun e=>by have:=Ϗ e;omega));have ao:=yz (fun o=>l.bel.trans ((ϖ w.1.size W').grown (grownBy_putObj' W' (w.1.size+2+1) o) l.bel.size (fun k e=>by cases e;omega)));obtain⟨⟨vm,s,d⟩,a,ah⟩:=l.box;have m0:=fun o=>(ni (dY s (grownBy_putObj' W' (w.1.size+2+1) o) (I _ _ _ _ s))).1;have a0:=fun o=>(ni (dY a (grownBy_putObj' W' (w.1.size+2+1) o) (I _ _ _ _ a))).1;have HM:=yz d;have aE:=yz I;clear D s d a I l B1 Bw U T aj al B0 ae af ag an X az r;gi_wp2
  gi_region
  gi_wp2
  refine⟨by simp,.inl ⟨w.1.size+2,_,rfl,run_takeDeferred (yx ap _),?_⟩⟩;have aD:=yz (fun o=>(yx ao o).drew.trans ((ϖ w.1.size _).grown (grownBy_putObj' (W'.putObj (w.1.size+2+1) o).drew (w.1.size+2) (.deferred ν)) (yx ao o).size (fun k e=>by cases e;omega)));refine⟨_,by simp[results,go_sem];rfl,⟨vm,rfl,?_⟩,yx aD _,ah⟩;rcases yx HM with h | ⟨g,e,n0,n1,n2,K⟩
  ·exact .inl h
  ·refine .inr ⟨g,e,n0,?_⟩;obtain⟨u,R,K⟩:=K;have k1:=fun o=>dY R (grownBy_putObj' W' (w.1.size+2+1) o) (yx aE _ _ _ _ R)
   have aN:g≠w.1.size+2:=fun e=>by
    have h2:=yx ap (.deferred ν);have h3:=k1 (.deferred ν);rw[e,h2]at h3;cases h3
   have k2:∀o,((W'.putObj (w.1.size+2+1) o).drew.putObj (w.1.size+2) (.deferred ν)).heap[g]? = ς (ξ u 2 (0,0)):=fun o=>(World.putObj_heap_other aN).trans (k1 o);exact⟨u,k2 _,K⟩
end
def iE(w:ω)(sb n:Nat)(T:Nat->Bool):Prop:=cu w 4 sb n (fun j=>β (T j))
def Ms(wd ht:Int)(s:ByteArray)(lv:Int)(sb n:Nat):List μ:=[J Z wd,J Z ht,τ s,J Z lv,σ (ς ⟨sb,0,ν⟩) n n]
def na(w:ω)(xb:Nat)(wd ht:Int)(s:ByteArray)(lv:Int)(sb n:Nat):Prop:=Blk w xb (Ms wd ht s lv sb n) 216
def jr(wd ht:Nat)(s:ByteArray)(lv:Int):Fr:=⟨wd,ht,bK s,lv⟩
theorem te(k j:Nat)(s:ByteArray)(b:Int)(z y n i:Nat)(T:Nat->Bool)(w:ω)(D:n=s.size)(x:i<n)(h:na w z k j s b y n)(u:iE w y n T):
  χ prog 165 #[π (ς ⟨z,0,ν⟩),J Z i] w fun e F=>e=ρ (β (mW (jr k j s b) T i))/\δ w.1.size w F:=by
 subst D;have C:(i:Int)<(s.size:Int):=by omega
 have o:=h.cell 2 _ rfl;have p:=h.cell 3 _ rfl;have q:=h.cell 4 _ rfl;have r:=u.cell x;have H:=ϊ o;have I:=ϊ p;have K:=ϊ q;have G:=ϊ r;have v:=eB x
 have l:Hid (mW (jr k j s b) T i=(decide (b<(s[i].toNat:Int)) && !T i)):=yz (by
  show (decide (b<(bK s i:Int)) && !T i)=_
  simp only[v])
 clear o p q r h u v;generalize T i=t at *;generalize mW (jr k j s b) T i=g at *;have f:ύ (s[i].toNat:Int)=(s[i].toNat:Int):=au (by omega) (by have:=s[i].toNat_lt;omega);have d:=yz f;clear f;by_cases a:b<(s[i].toNat:Int)
 focus
  have B:decide (b<ύ (s[i].toNat:Int))=θ:=by rw[yx d];exact decide_eq_true a
  have c:Hid (g = !t):=yz (by rw[yx l,decide_eq_true a,Bool.true_and])
 rotate_left
 focus
  have c:Hid (g=φ):=yz (by rw[yx l,decide_eq_false a,Bool.false_and]);have B:decide (b<ύ (s[i].toNat:Int))=φ:=by rw[yx d];exact decide_eq_false a
 rotate_left
 all_goals
  clear l;go_enter func165,ntmps165;go_wp2_with fail;refine de ?_;repeat (go_big_quiet_step (fail))
  refine di fun A m=>?_;have E:=ό w A m;go_wp2;go_ret;exact⟨by rw[yx c];rfl,E⟩
section
theorem Ha:(prog.info? 2).map (fun i=>(i.zero,i.size,i.bytes))=ς (ς (J Z 0),1,8):=by kernel_rfl
def nums(l:List Nat):List μ:=l.map fun (n:Nat)=>Value.int .i64 (n:Int)
theorem nJ(a b:List Nat):nums (a ++ b)=nums a ++ nums b:=by unfold nums;rw[List.map_append]
theorem ue(l:List Nat)(k:Nat)(h:k<l.length):(nums l)[k]? = ς (J Z (l.getD k 0:Nat)):=by
 unfold nums;rw[List.getElem?_map,ϔ h,List.getD,ϔ h];rfl
def jC(b:Bl):List μ:=[J Z b.ar,J Z b.su,J Z b.sx,J Z b.sy,β b.ed]
def xe:List μ:=[J Z 0,J Z 0,J Z 0,J Z 0,β φ]
variable {s:ByteArray} {BL cs xs:List μ} {b b' g m q sb xb:Nat} {T1:Nat->Bool} {f:Nat->μ} {t:TypeId} {v v8:μ} {w w1 w2 wx wy:ω}
theorem Blk.grown{a:Option Nat}(h:Blk w b cs t)(d:w.grownBy w2 a)(c:ς b≠a):Blk w2 b cs t:=(d.block b h.lt c).trans h
theorem cu.grown{a:Option Nat}(h:cu w t g m f)(c:w.grownBy w2 a)(b:ς g≠a):cu w2 t g m f:=h.same (c.block g h.lt b)
theorem cu.drewn(h:cu w t g m f):cu w.drew t g m f:=h.same rfl
theorem bj{b:ω}{B:Nat}{n:Nat}(h:w.ownsRow B t m v n xs)(a:δ w.1.size w b):b.ownsRow B t m v n xs:=
 h.kept (row:=ν) ⟨a.os,a.tape,a.output,a.size,fun k c _=>a.block k c⟩ (by cases d:v.ownBlock<;>simp)
theorem CH{B:Nat}{n:Nat}(h:w.ownsRow B t 1 v n xs)(k:0<n):∃g a,v=σ (ς ⟨g,0,ν⟩) n a/\B<=g/\∀j u,xs[j]? = ς u->w.cell? ⟨g,j,ν⟩=ς u:=by
 have b:=h;rcases h.2 with ⟨_,i⟩ | ⟨g,a,d,rfl,e,_⟩
 ·omega
 ·refine⟨g,a,rfl,e,fun j u c=>?_⟩;have f:j<n*1:=by rw[<-b.1];exact(List.getElem?_eq_some_iff.1 c).1
  rw[b.cellAt j f,c]
theorem jo(s:ByteArray)(i:Nat):bK s i<256:=by
 unfold bK;split
 ·exact UInt8.toNat_lt _
 ·omega
theorem Fs(h:Blk w b cs t)(a:b≠b')(x y z u:μ):Blk ((((w.setCell ⟨b',0,ν⟩ x).setCell ⟨b',1,ν⟩ y).setCell ⟨b',2,ν⟩ z).setCell ⟨b',3,ν⟩ u) b cs t:=(((h.other _ _ a).other _ _ a).other _ _ a).other _ _ a
theorem cu.other(h:cu w t g m f)(a:η)(v:μ)(b:g≠a.block):cu (w.setCell a v) t g m f:=h.same (heap_setCell_other w a g v b)
theorem LO(h:cu w t g m f)(a:g≠b')(x y z u:μ):cu ((((w.setCell ⟨b',0,ν⟩ x).setCell ⟨b',1,ν⟩ y).setCell ⟨b',2,ν⟩ z).setCell ⟨b',3,ν⟩ u) t g m f:=(((h.other _ _ a).other _ _ a).other _ _ a).other _ _ a
theorem eE(h:w.grownBy w1 (ς sb)){a:η}(d:w.1.size<=a.block)(v:μ):w.grownBy (w1.setCell a v) (ς sb):=
 ⟨h.os,h.tape,h.output,by simpa[World.setCell] using h.size,fun k c b=>by rw[Below.heap_setCell _ _ _ _ (fun e=>by omega)];exact h.block k c b⟩
theorem GX(h:w.grownBy w1 (ς sb))(a:w.1.size<=b')(x y z u:μ):w.grownBy ((((w1.setCell ⟨b',0,ν⟩ x).setCell ⟨b',1,ν⟩ y).setCell ⟨b',2,ν⟩ z).setCell ⟨b',3,ν⟩ u) (ς sb):=eE (eE (eE (eE h a _) a _) a _) a _
theorem gD{B:Nat}{n:Nat}(h:w.ownsRow B t m v n xs){a:η}(u:μ)(d:a.block<B):(w.setCell a u).ownsRow B t m v n xs:=by
 have b:w.grownBy (w.setCell a u) (ς a.block):=⟨rfl,rfl,rfl,by simp[World.setCell],fun k _ c=>Below.heap_setCell _ _ _ _ (fun e=>c (by rw[e]))⟩
 exact h.kept b (by cases f:v.ownBlock with
  | none=>exact .inl rfl
  | some g=>exact .inr (fun e=>by have:=(h.lt g f).1;have:=Ϗ e;omega))
theorem LL{B:Nat}{n:Nat}(h:w.ownsRow B t m v n xs)(a:b'<B)(x y z u:μ):((((w.setCell ⟨b',0,ν⟩ x).setCell ⟨b',1,ν⟩ y).setCell ⟨b',2,ν⟩ z).setCell ⟨b',3,ν⟩ u).ownsRow B t m v n xs:=gD (gD (gD (gD h _ a) _ a) _ a) _ a
theorem Kb{B:Nat}{n:Nat}(h:w.ownsRow B t m v n xs):w.drew.ownsRow B t m v n xs:=h
theorem qD(w:ω)(x:μ)(t:TypeId):∀(j:Nat) (u:μ),[x][j]? = ς u->(w.alloc (ξ #[x] t)).cell? ((⟨w.1.size,0,ν⟩:η).add j)=ς u:=by
 intro j u a
 match j,a with
 | 0,a=>simp at a;subst a;simp[Addr.add]
 | j+1,a=>simp at a
structure eZ (w wx:ω) (xb sb:Nat) (wd ht:Nat) (s:ByteArray) (lv:Int) (T1:Nat->Bool) (BL:List μ) (v8:μ) (A:List Nat):Prop where
 blob:Blk wx (w.1.size+1) BL 176
 seen:iE wx sb s.size T1
 look:na wx xb wd ht s lv sb s.size
 res:Blk wx w.1.size xe 176
 all:wx.ownsRow (w.1.size+2) 2 1 v8 A.length (nums A)
 grown:w.grownBy wx (ς sb)
theorem eZ.kept{e ht:Nat}{d:Int}{A:List Nat}(h:eZ w wx xb sb e ht s d T1 BL v8 A)(a:δ wx.1.size wx wy):eZ w wy xb sb e ht s d T1 BL v8 A:=
 ⟨h.blob.kept a,cu.kept h.seen a,Blk.kept h.look a,h.res.kept a,bj h.all a,⟨by rw[a.os];exact h.grown.os,by rw[a.tape];exact h.grown.tape,by rw[a.output];exact h.grown.output,ϑ h.grown.size a.size,fun k c b=>by rw[a.block k (ϒ c h.grown.size)];exact h.grown.block k c b⟩⟩
theorem eZ.byRow{p n d:Nat}{o:Int}{A:List Nat}{c:Option Nat}(h:eZ w wx xb sb p n s o T1 BL v8 A)(a:wx.grownBy wy c)(t:∀g,c=ς g->d<=g)(q:w.1.size+1<d)(j:sb<d)(l:xb<d)(r:∀g,v8.ownBlock=ς g->g<d):eZ w wy xb sb p n s o T1 BL v8 A:=by
 have f:∀b,b<d->ς b≠c:=fun b v e=>by have:=t b e.symm;omega
 refine⟨h.blob.grown a (f _ q),cu.grown h.seen a (f _ j),Blk.grown h.look a (f _ l),h.res.grown a (f _ (by omega)),h.all.kept a ?_,?_⟩
 ·cases u:v8.ownBlock with
  | none=>exact .inl rfl
  | some g=>exact .inr (f g (r g u))
 ·refine⟨a.os.trans h.grown.os,a.tape.trans h.grown.tape,a.output.trans h.grown.output,ϑ h.grown.size a.size,fun k m i=>?_⟩;rw[a.block k (ϒ m h.grown.size) (f k (by omega))];exact h.grown.block k m i
theorem eZ.mark{g d:Nat}{f:Int}{A:List Nat}(h:eZ w wx xb sb g d s f T1 BL v8 A)(l:q<s.size)(c:xb≠sb)(m:sb<w.1.size)(n:xb<w.1.size):eZ w (wx.setCell ⟨sb,q,ν⟩ (β θ)).drew xb sb g d s f (Go.Proofs.YtnnhjegapofopaaGreatDoor.mark T1 q) BL v8 A:=by
 have k:iE (wx.setCell ⟨sb,q,ν⟩ (β θ)) sb s.size (Go.Proofs.YtnnhjegapofopaaGreatDoor.mark T1 q):=cu.congr (cu.set h.seen q (β θ)) (fun j _=>by unfold Go.Proofs.YtnnhjegapofopaaGreatDoor.mark;by_cases e:j=q<;>simp[e]);have i:=gD h.all (a:=⟨sb,q,ν⟩) (β θ) (show sb<w.1.size+2 by omega);have b:=MK h.grown q (β θ);exact⟨(h.blob.other ⟨sb,q,ν⟩ (β θ) (show w.1.size+1≠sb by omega)).drewn,cu.drewn k,Blk.drewn (Blk.other h.look ⟨sb,q,ν⟩ (β θ) c),(h.res.other ⟨sb,q,ν⟩ (β θ) (show w.1.size≠sb by omega)).drewn,i,⟨b.os,b.tape,b.output,b.size,b.block⟩⟩
theorem eZ.appended{l g:Nat}{i:Int}{j:μ}{A:List Nat}(h:eZ w wx xb sb l g s i T1 BL v8 A)(a:wx.grownBy wy v8.ownBlock)(m:wy.ownsRow (w.1.size+2) 2 1 j (A.length+1) (nums A ++ [J Z (q:Int)]))(o:sb<w.1.size)(p:xb<w.1.size):eZ w wy xb sb l g s i T1 BL j (A ++ [q]):=by
 have c:∀b,b<w.1.size+2->ς b≠v8.ownBlock:=fun b n e=>by have:=(h.all.lt b e.symm).1;omega
 refine⟨h.blob.grown a (c _ (by omega)),cu.grown h.seen a (c _ (by omega)),Blk.grown h.look a (c _ (by omega)),h.res.grown a (c _ (by omega)),?_,?_⟩
 ·rw[nJ,ϕ];exact m
 ·refine⟨a.os.trans h.grown.os,a.tape.trans h.grown.tape,a.output.trans h.grown.output,ϑ h.grown.size a.size,fun k f d=>?_⟩;rw[a.block k (ϒ f h.grown.size) (c k (by omega))];exact h.grown.block k f d
theorem cy{B:Nat}{n:Nat}(h:w.ownsRow B t m v n xs):∃a c,v=σ a n c:=by
 rcases h.2 with ⟨f,e⟩ | ⟨g,b,d,i,_⟩
 ·exact⟨ν,0,by rw[f,e]⟩
 ·exact⟨_,b,i⟩
theorem Ke(w:ω)(B:Nat)(h:B<=w.1.size):(w.alloc (ξ #[] 2)).ownsRow B 2 1 (σ (ς ⟨w.1.size,0,ν⟩) 0 0) 0 (nums []):=
 ⟨rfl,.inr ⟨_,0,#[],rfl,h,Array.getElem?_push_size,ϐ _,ϓ _,rfl,rfl⟩⟩
theorem JI(f:Fr)(p c r:Nat)(a:c=p % f.wd)(b:r=p / f.wd):lh f p=(((([] ++ (if 0<c then [p-1] else [])) ++ (if c<f.wd-1 then [p+1] else [])) ++ (if 0<r then [p-f.wd] else [])) ++ (if r<f.ht-1 then [p+f.wd] else [])):=by
 unfold lh;rw[<-a,<-b,List.nil_append]
theorem AK(m H:Nat)(s:ByteArray)(lv:Int)(xb B i:Nat)(T:Nat->Bool)(w:ω)(cI:1<=m)(hw:m<=16)(ct:1<=H)(hh:H<=12)(hs:s.size=m*H)(hi:i<s.size)(hT:T i=φ)(bx:xb≠B)(hL:na w xb m H s lv B s.size)(hS:iE w B s.size T):
  χ prog 166 #[π (ς ⟨xb,0,ν⟩),J Z i] w fun e w'=>e=ρ (κ (jC (iA (jr m H s lv) (gO (jr m H s lv) T i).2)).toArray)/\iE w' B s.size (gO (jr m H s lv) T i).1/\w.grownBy w' (ς B):=by
 obtain⟨i0,ak,aL,aM,aN⟩:=info_parts Ha;have cD:400<=maxLen:=by decide +kernel
 have b1:s.size<=192:=by rw[hs];exact Nat.mul_le_mul hw hh
 have c0:=hL.cell 0 _ rfl;have c1:=hL.cell 1 _ rfl;have c4:=hL.cell 4 _ rfl;have d0:=hS.cell hi;have df:=hS.free i;have lx:=hL.lt;have ls:=hS.lt;have cv:(i:Int)<(s.size:Int):=by omega
 have a1:=yz hs;have HT:=yz hT;clear hs hT;go_enter func166,ntmps166;go_upto_region 5 with fail;clear c0 c1 c4 d0 df;have Z3:=bT w (ξ #[J Z 0,J Z 0,J Z 0,J Z 0,β φ] 176) (ξ #[J Z 0,J Z 0,J Z 0,J Z 0,β φ] 176) (ξ #[J Z (i:Int)] 2);have R0:Blk (((w.alloc (ξ #[J Z 0,J Z 0,J Z 0,J Z 0,β φ] 176)).alloc (ξ #[J Z 0,J Z 0,J Z 0,J Z 0,β φ] 176)).alloc (ξ #[J Z (i:Int)] 2)) w.1.size xe 176:=((aq w xe 176).alloc _).alloc _;have b0:=aq (w.alloc (ξ #[J Z 0,J Z 0,J Z 0,J Z 0,β φ] 176)) xe 176;have e1:(w.alloc (ξ #[J Z 0,J Z 0,J Z 0,J Z 0,β φ] 176)).1.size=w.1.size+1:=by simp
 rw[e1]at b0;have Q0:Blk (((w.alloc (ξ #[J Z 0,J Z 0,J Z 0,J Z 0,β φ] 176)).alloc (ξ #[J Z 0,J Z 0,J Z 0,J Z 0,β φ] 176)).alloc (ξ #[J Z (i:Int)] 2)) (w.1.size+1) xe 176:=b0.alloc _;have e2:((w.alloc (ξ #[J Z 0,J Z 0,J Z 0,J Z 0,β φ] 176)).alloc (ξ #[J Z 0,J Z 0,J Z 0,J Z 0,β φ] 176)).1.size=w.1.size+1+1:=by simp
 have O0:(((w.alloc (ξ #[J Z 0,J Z 0,J Z 0,J Z 0,β φ] 176)).alloc (ξ #[J Z 0,J Z 0,J Z 0,J Z 0,β φ] 176)).alloc (ξ #[J Z (i:Int)] 2)).ownsRow (w.1.size+2) 2 1 (σ (ς ⟨w.1.size+1+1,0,ν⟩) 1 1) 1 (nums [i]):=by
  have h:=World.ownsRow_lit (base:=w.1.size+2) (e:=2) (size:=1) ((w.alloc (ξ #[J Z 0,J Z 0,J Z 0,J Z 0,β φ] 176)).alloc (ξ #[J Z 0,J Z 0,J Z 0,J Z 0,β φ] 176)) #[J Z (i:Int)] 1 (by omega) (by omega) rfl;rw[e2]at h;exact h
 have L0:na _ xb m H s lv B s.size:=Blk.kept hL Z3;have S0:iE _ B s.size T:=cu.kept hS Z3;have G0:w.grownBy _ (ς B):=⟨Z3.os,Z3.tape,Z3.output,Z3.size,fun k hk _=>Z3.block k hk⟩
 clear b0 e1 e2 Z3 hL hS;generalize ((w.alloc (ξ #[J Z 0,J Z 0,J Z 0,J Z 0,β φ] 176)).alloc (ξ #[J Z 0,J Z 0,J Z 0,J Z 0,β φ] 176)).alloc (ξ #[J Z (i:Int)] 2)=W0 at R0 Q0 O0 L0 S0 G0 ⊢;have c4:=L0.cell 4 _ rfl;have d0:=S0.cell hi;have df:=S0.free i;have S1:=cu.set S0 i (β θ);have R1:=R0.other ⟨B,i,ν⟩ (β θ) (show w.1.size≠B by omega);have Q1:=Q0.other ⟨B,i,ν⟩ (β θ) (show w.1.size+1≠B by omega);have L1:=Blk.other L0 ⟨B,i,ν⟩ (β θ) bx;have O1:=gD O0 (a:=⟨B,i,ν⟩) (β θ) (show B<w.1.size+2 by omega);have G1:=MK G0 i (β θ);have HR:=yz R1;have HQ:=yz Q1;have HL:=yz L1;have HO:=yz O1;have HG:=yz G1;have HS:Hid (iE (W0.setCell ⟨B,i,ν⟩ (β θ)) B s.size (mark T i)):=yz (cu.congr S1 (fun j _=>by unfold mark;by_cases e:j=i<;>simp[e]));go_wp2_with fail;clear R0 Q0 O0 L0 S0 G0 c4 d0 df S1 R1 Q1 L1 O1 G1;generalize bp:jr m H s lv=f;have HF:=yz bp;clear bp;have ab:Hid (∀k,xh f (cnt T f.n) (bi f T i k)):=yz (fun k=>ms (by rw[<-yx HF];show i<m*H;rw[<-yx a1];exact hi) (yx HT) k);have bq:f.n=s.size:=by rw[<-yx HF];exact(yx a1).symm
 have ac:=yz bq;clear bq;have bb:Hid (∀k,(bi f T i k).2.length<=s.size):=yz (fun k=>by have:=(yx ab k).len;rw[yx ac]at this;omega);go_loopw [8,9] (fun v kk wr=>∃k:Nat,k<=(bi f T i k).2.length/\kk=J Z k/\Hid (wr.ownsRow (w.1.size+2) 2 1 v (bi f T i k).2.length (nums (bi f T i k).2))/\Hid (iE wr B s.size (bi f T i k).1)/\Hid (na wr xb m H s lv B s.size)/\Hid (Blk wr (w.1.size+1) (jC (iA f ((bi f T i k).2.take k))) 176)/\Hid (Blk wr w.1.size xe 176)/\Hid (w.grownBy wr (ς B))) (fun _ kk _=>s.size-(ώ kk).toNat)
 case atStart=>exact⟨0,ϓ _,rfl,HO,HS,HL,HQ,HR,HG⟩
 case round=>
  clear HR HQ HL HO HS HG;obtain⟨k,hk,rfl,HO,HS,HL,HQ,HR,HG⟩:=hrel;have cB:=yx bb k;by_cases aC:k<(bi f T i k).2.length
  ·have bv:(bi f T i k).2.getD k 0∈(bi f T i k).2:=by rw[List.getD,ϔ aC];exact List.getElem_mem aC
   have aI:=(yx ab k).lies _ bv;rw[yx ac]at aI;have bJ:Hid (bi f T i (k+1)=gu f (bi f T i k) (lh f ((bi f T i k).2.getD k 0))):=yz (by rw[bi,if_pos aC])
   have bR:Hid ((bi f T i k).2.take (k+1)=(bi f T i k).2.take k ++ [(bi f T i k).2.getD k 0]):=yz (by
    rw[List.take_succ_eq_append_getElem aC,List.getD,ϔ aC];rfl)
   have a4:=sr (f:=f) (by rw[<-yx HF];exact hw) (by rw[<-yx HF];exact hh) (fun i=>by rw[<-yx HF];exact jo s i) ((bi f T i k).2.take k) (fun j hj=>(yx ab k).lies j (List.mem_of_mem_take hj));rw[List.length_take]at a4;obtain⟨g,Y,hv,cs,P⟩:=CH (yx HO) (by omega);have ca:=P k _ (ue _ k aC);clear bv P;generalize bn:bi f T i k=G at *;have ba:=yz bn;clear bn;obtain⟨V,A⟩:=G;simp only at *;generalize bu:A.getD k 0=p at *;have cl:=yz bu;clear bu;generalize aE:iA f (A.take k)=b at *;have bB:=yz aE;clear aE;obtain⟨ar,su,sx,sy,ed⟩:=b;simp only at a4;obtain⟨bW,co,cp,cq⟩:=a4;have aW:ar=k:=by omega
   have ce:ar<=192:=by omega
   have ck:=yz aW;clear bW aW;have c0:=dT (yx HL);subst hv;have cz:(k:Int)<(A.length:Int):=by omega
   have cE:(p:Int)<(s.size:Int):=by omega
   obtain⟨c,aF⟩:∃c,c=p % m:=⟨_,rfl⟩
   obtain⟨r,aJ⟩:∃r,r=p / m:=⟨_,rfl⟩
   have hc:(p:Int) % (m:Int)=(c:Int):=by rw[aF];rfl
   have hr:(p:Int) / (m:Int)=(r:Int):=by rw[aJ];rfl
   have cr:c<m:=by rw[aF];exact Nat.mod_lt _ (by omega)
   have cH:r<H:=by rw[aJ];exact Nat.div_lt_of_lt_mul (by rw[<-yx a1];exact aI)
   have b2:p=m*r+c:=by rw[aF,aJ];exact(Nat.div_add_mod p m).symm
   have cj:0<r->m<=p:=fun h=>by
    have h2:m*1<=m*r:=Nat.mul_le_mul_left _ h;omega
   have ci:0<c->1<=p:=fun h=>by omega
   have aY:=yz aF;have a0:=yz aJ;clear aF aJ b2;have bw:ύ (s[p].toNat:Int)=((bK s p:Nat):Int):=by rw[eB aI];exact au (by omega) (by have:=s[p].toNat_lt;omega)
   have bk:=yz bw;clear bw;go_upto_region 13 with fail;rw[hc,yx bk];clear hc hr bk c0 ca;have bs:=jo s p;obtain⟨n,a6⟩:∃n,n=bK s p:=⟨_,rfl⟩
   rw[<-a6]at bs ⊢;have bL:=yz a6;clear a6;obtain⟨m1,aR⟩:∃m1,m1=n*c:=⟨_,rfl⟩
   obtain⟨m2,aS⟩:∃m2,m2=n*r:=⟨_,rfl⟩
   have cf:m1<=255*15:=by rw[aR];exact Nat.mul_le_mul (by omega) (by omega)
   have cg:m2<=255*11:=by rw[aS];exact Nat.mul_le_mul (by omega) (by omega)
   have b4:(n:Int)*(c:Int)=(m1:Int):=by rw[aR];exact(Int.natCast_mul _ _).symm
   have b5:(n:Int)*(r:Int)=(m2:Int):=by rw[aS];exact(Int.natCast_mul _ _).symm
   have bG:=yz aR;have bH:=yz aS;clear aR aS;obtain⟨q0,q1,q2,q3,q4⟩:=iZ (yx HQ);obtain⟨e0,e1,e2,e3,e4⟩:=tq (yx HQ);simp only at q0 q1 q2 q3 q4;have ax:w.1.size+1≠xb:=by omega
   have aw:w.1.size+1≠B:=by omega
   go_upto_region 17 with fail;have X:=yz ((((yx HQ).set 0 (J Z ((ar:Int)+1))).set 1 (J Z ((su:Int)+(n:Int)))).set 2 (J Z ((sx:Int)+(m1:Int))) |>.set 3 (J Z ((sy:Int)+(m2:Int))));have ah:=yz (LO (yx HS) (Ne.symm aw) (J Z ((ar:Int)+1)) (J Z ((su:Int)+(n:Int))) (J Z ((sx:Int)+(m1:Int))) (J Z ((sy:Int)+(m2:Int))));have ae:=yz (Fs (yx HL) (Ne.symm ax) (J Z ((ar:Int)+1)) (J Z ((su:Int)+(n:Int))) (J Z ((sx:Int)+(m1:Int))) (J Z ((sy:Int)+(m2:Int))));have ag:=yz (Fs (yx HR) (show w.1.size≠w.1.size+1 by omega) (J Z ((ar:Int)+1)) (J Z ((su:Int)+(n:Int))) (J Z ((sx:Int)+(m1:Int))) (J Z ((sy:Int)+(m2:Int))));have af:=yz (LL (yx HO) (show w.1.size+1<w.1.size+2 by omega) (J Z ((ar:Int)+1)) (J Z ((su:Int)+(n:Int))) (J Z ((sx:Int)+(m1:Int))) (J Z ((sy:Int)+(m2:Int))));have ad:=yz (GX (yx HG) (Nat.le_succ _) (J Z ((ar:Int)+1)) (J Z ((su:Int)+(n:Int))) (J Z ((sx:Int)+(m1:Int))) (J Z ((sy:Int)+(m2:Int))));generalize ((((wr.setCell ⟨w.1.size+1,0,ν⟩ (J Z ((ar:Int)+1))).setCell ⟨w.1.size+1,1,ν⟩ (J Z ((su:Int)+(n:Int)))).setCell ⟨w.1.size+1,2,ν⟩ (J Z ((sx:Int)+(m1:Int)))).setCell ⟨w.1.size+1,3,ν⟩ (J Z ((sy:Int)+(m2:Int))))=W2 at X ah ae ag af ad ⊢;clear HQ HS HL HR HO HG q0 q1 q2 q3 q4 e0 e1 e2 e3 e4 b4 b5
   have aA:Hid (fw f p=(decide (c=0) || decide (r=0) || decide (c=m-1) || decide (r=H-1))):=yz (by
    unfold fw;rw[<-yx HF];show (decide (p % m=0) || decide (p / m=0) || decide (p % m=m-1) || decide (p / m=H-1))=_
    rw[<-yx aY,<-yx a0])
   go_cut [8] from 35 to 167 (fun v W=>v=σ (ς ⟨g,0,ν⟩) A.length Y/\Hid (Blk W (w.1.size+1) [J Z ((ar:Int)+1),J Z ((su:Int)+(n:Int)),J Z ((sx:Int)+(m1:Int)),J Z ((sy:Int)+(m2:Int)),β (ed || fw f p)] 176)/\Hid (iE W B s.size V)/\Hid (na W xb m H s lv B s.size)/\Hid (Blk W w.1.size xe 176)/\Hid (W.ownsRow (w.1.size+2) 2 1 (σ (ς ⟨g,0,ν⟩) A.length Y) A.length (nums A))/\Hid (w.grownBy W (ς B)))
   case first=>
    have q4:=(yx X).cell 4 _ rfl;have e4:=(yx X).free 4;cases ed
    case true=>
     have HV:Hid ((θ || fw f p)=θ):=yz (by rw[Bool.true_or]);have F:Hid (Blk (W2.setCell ⟨w.1.size+1,4,ν⟩ (β θ)) (w.1.size+1) [J Z ((ar:Int)+1),J Z ((su:Int)+(n:Int)),J Z ((sx:Int)+(m1:Int)),J Z ((sy:Int)+(m2:Int)),β (θ || fw f p)] 176):=yz (by rw[yx HV];exact(yx X).set 4 (β θ));have L:=yz ((yx ah).other ⟨w.1.size+1,4,ν⟩ (β θ) (Ne.symm aw));have I:=yz (Blk.other (yx ae) ⟨w.1.size+1,4,ν⟩ (β θ) (Ne.symm ax));have O:=yz ((yx ag).other ⟨w.1.size+1,4,ν⟩ (β θ) (show w.1.size≠w.1.size+1 by omega));have K:=yz (gD (yx af) (a:=⟨w.1.size+1,4,ν⟩) (β θ) (show w.1.size+1<w.1.size+2 by omega));have M:=yz (eE (yx ad) (a:=⟨w.1.size+1,4,ν⟩) (Nat.le_succ _) (β θ));go_wp2;go_meet
     case rel=>exact⟨rfl,F,L,I,O,K,M⟩
    case false=>
     by_cases k0:c=0
     ·have b6:((c:Int)==0)=θ:=by simp;omega
      have K0:=yz k0;clear k0;have HV:Hid ((φ || fw f p)=θ):=yz (by rw[yx aA];simp[yx K0]);have F:Hid (Blk (W2.setCell ⟨w.1.size+1,4,ν⟩ (β θ)) (w.1.size+1) [J Z ((ar:Int)+1),J Z ((su:Int)+(n:Int)),J Z ((sx:Int)+(m1:Int)),J Z ((sy:Int)+(m2:Int)),β (φ || fw f p)] 176):=yz (by rw[yx HV];exact(yx X).set 4 (β θ));have L:=yz ((yx ah).other ⟨w.1.size+1,4,ν⟩ (β θ) (Ne.symm aw));have I:=yz (Blk.other (yx ae) ⟨w.1.size+1,4,ν⟩ (β θ) (Ne.symm ax));have O:=yz ((yx ag).other ⟨w.1.size+1,4,ν⟩ (β θ) (show w.1.size≠w.1.size+1 by omega));have K:=yz (gD (yx af) (a:=⟨w.1.size+1,4,ν⟩) (β θ) (show w.1.size+1<w.1.size+2 by omega));have M:=yz (eE (yx ad) (a:=⟨w.1.size+1,4,ν⟩) (Nat.le_succ _) (β θ));go_wp2;go_meet
      case rel=>exact⟨rfl,F,L,I,O,K,M⟩
     ·have b6:((c:Int)==0)=φ:=by simp;omega
      have K0:=yz k0;clear k0;by_cases k1:r=0
      ·have b7:((r:Int)==0)=θ:=by simp;omega
       have K1:=yz k1;clear k1;have HV:Hid ((φ || fw f p)=θ):=yz (by rw[yx aA];simp[yx K1]);have F:Hid (Blk (W2.setCell ⟨w.1.size+1,4,ν⟩ (β θ)) (w.1.size+1) [J Z ((ar:Int)+1),J Z ((su:Int)+(n:Int)),J Z ((sx:Int)+(m1:Int)),J Z ((sy:Int)+(m2:Int)),β (φ || fw f p)] 176):=yz (by rw[yx HV];exact(yx X).set 4 (β θ));have L:=yz ((yx ah).other ⟨w.1.size+1,4,ν⟩ (β θ) (Ne.symm aw));have I:=yz (Blk.other (yx ae) ⟨w.1.size+1,4,ν⟩ (β θ) (Ne.symm ax));have O:=yz ((yx ag).other ⟨w.1.size+1,4,ν⟩ (β θ) (show w.1.size≠w.1.size+1 by omega));have K:=yz (gD (yx af) (a:=⟨w.1.size+1,4,ν⟩) (β θ) (show w.1.size+1<w.1.size+2 by omega));have M:=yz (eE (yx ad) (a:=⟨w.1.size+1,4,ν⟩) (Nat.le_succ _) (β θ));go_wp2;go_meet
       case rel=>exact⟨rfl,F,L,I,O,K,M⟩
      ·have b7:((r:Int)==0)=φ:=by simp;omega
       have K1:=yz k1;clear k1;by_cases k2:c=m-1
       ·have b8:((c:Int)==(m:Int)-1)=θ:=by simp;omega
        have K2:=yz k2;clear k2;have HV:Hid ((φ || fw f p)=θ):=yz (by rw[yx aA];simp[yx K2]);have F:Hid (Blk (W2.setCell ⟨w.1.size+1,4,ν⟩ (β θ)) (w.1.size+1) [J Z ((ar:Int)+1),J Z ((su:Int)+(n:Int)),J Z ((sx:Int)+(m1:Int)),J Z ((sy:Int)+(m2:Int)),β (φ || fw f p)] 176):=yz (by rw[yx HV];exact(yx X).set 4 (β θ));have L:=yz ((yx ah).other ⟨w.1.size+1,4,ν⟩ (β θ) (Ne.symm aw));have I:=yz (Blk.other (yx ae) ⟨w.1.size+1,4,ν⟩ (β θ) (Ne.symm ax));have O:=yz ((yx ag).other ⟨w.1.size+1,4,ν⟩ (β θ) (show w.1.size≠w.1.size+1 by omega));have K:=yz (gD (yx af) (a:=⟨w.1.size+1,4,ν⟩) (β θ) (show w.1.size+1<w.1.size+2 by omega));have M:=yz (eE (yx ad) (a:=⟨w.1.size+1,4,ν⟩) (Nat.le_succ _) (β θ));go_wp2;go_meet
        case rel=>exact⟨rfl,F,L,I,O,K,M⟩
       ·have b8:((c:Int)==(m:Int)-1)=φ:=by simp;omega
        have K2:=yz k2;clear k2;by_cases k3:r=H-1
        ·have b9:((r:Int)==(H:Int)-1)=θ:=by simp;omega
         have K3:=yz k3;clear k3;have HV:Hid ((φ || fw f p)=θ):=yz (by rw[yx aA];simp[yx K3]);have F:Hid (Blk (W2.setCell ⟨w.1.size+1,4,ν⟩ (β θ)) (w.1.size+1) [J Z ((ar:Int)+1),J Z ((su:Int)+(n:Int)),J Z ((sx:Int)+(m1:Int)),J Z ((sy:Int)+(m2:Int)),β (φ || fw f p)] 176):=yz (by rw[yx HV];exact(yx X).set 4 (β θ));have L:=yz ((yx ah).other ⟨w.1.size+1,4,ν⟩ (β θ) (Ne.symm aw));have I:=yz (Blk.other (yx ae) ⟨w.1.size+1,4,ν⟩ (β θ) (Ne.symm ax));have O:=yz ((yx ag).other ⟨w.1.size+1,4,ν⟩ (β θ) (show w.1.size≠w.1.size+1 by omega));have K:=yz (gD (yx af) (a:=⟨w.1.size+1,4,ν⟩) (β θ) (show w.1.size+1<w.1.size+2 by omega));have M:=yz (eE (yx ad) (a:=⟨w.1.size+1,4,ν⟩) (Nat.le_succ _) (β θ));go_wp2;go_meet
         case rel=>exact⟨rfl,F,L,I,O,K,M⟩
        ·have b9:((r:Int)==(H:Int)-1)=φ:=by simp;omega
         have K3:=yz k3;clear k3;have HV:Hid ((φ || fw f p)=φ):=yz (by rw[yx aA];simp[yx K0,yx K1,yx K2,yx K3]);have F:Hid (Blk (W2.setCell ⟨w.1.size+1,4,ν⟩ (β φ)) (w.1.size+1) [J Z ((ar:Int)+1),J Z ((su:Int)+(n:Int)),J Z ((sx:Int)+(m1:Int)),J Z ((sy:Int)+(m2:Int)),β (φ || fw f p)] 176):=yz (by rw[yx HV];exact(yx X).set 4 (β φ));have L:=yz ((yx ah).other ⟨w.1.size+1,4,ν⟩ (β φ) (Ne.symm aw));have I:=yz (Blk.other (yx ae) ⟨w.1.size+1,4,ν⟩ (β φ) (Ne.symm ax));have O:=yz ((yx ag).other ⟨w.1.size+1,4,ν⟩ (β φ) (show w.1.size≠w.1.size+1 by omega));have K:=yz (gD (yx af) (a:=⟨w.1.size+1,4,ν⟩) (β φ) (show w.1.size+1<w.1.size+2 by omega));have M:=yz (eE (yx ad) (a:=⟨w.1.size+1,4,ν⟩) (Nat.le_succ _) (β φ));go_wp2;go_meet
         case rel=>exact⟨rfl,F,L,I,O,K,M⟩
   case rest=>
   obtain⟨a9,F,L,I,O,K,M⟩:=hcut;subst a9;clear X ah ae ag af ad aA;obtain⟨BL,a3⟩:∃BL:List μ,BL=[J Z ((ar:Int)+1),J Z ((su:Int)+(n:Int)),J Z ((sx:Int)+(m1:Int)),J Z ((sy:Int)+(m2:Int)),β (ed || fw f p)]:=⟨_,rfl⟩
   rw[<-a3]at F;have bA:=yz a3;clear a3;have bl:eZ w wc xb B m H s lv V BL (σ (ς ⟨g,0,ν⟩) A.length Y) A:=⟨yx F,yx L,yx I,yx O,yx K,yx M⟩
   have ay:w.1.size+1<wc.1.size:=(yx F).lt;have al:B<wc.1.size:=cu.lt (yx L);have az:xb<wc.1.size:=Blk.lt (yx I);have R:∀q,(Value.slice (ς ⟨g,0,ν⟩) A.length Y).ownBlock=ς q->q<wc.1.size:=fun q e=>((yx K).lt q e).2;have l:=yz (bl.kept (an wc (ξ #[] 2)));have bc:=yz (Ke wc wc.1.size (ϐ _));have aH:wc.1.size<=(wc.alloc (ξ #[] 2)).1.size:=by simp
   clear F L I O K M bl;go_upto_if 107 with fail;generalize bY:wc.1.size=lo at *;clear bY;have aG:=yz R;clear R;have R:=aG;clear aG;obtain⟨N,hN⟩:∃N:List Nat,N=[]:=⟨_,rfl⟩
   have Q:Hid ((wc.alloc (ξ #[] 2)).ownsRow lo 2 1 (σ (ς ⟨lo,0,ν⟩) 0 0) N.length (nums N)):=yz (by rw[hN];exact yx bc);have aj:N.length<=0:=by rw[hN];exact ϐ _
   have x:=yz hN;clear hN bc;have C:=aH;clear aH;generalize wc.alloc (ξ #[] 2)=W3 at Q l C ⊢;go_cut [14] from 35 to 167 (fun v W=>∃N:List Nat,N=([] ++ (if 0<c then [p-1] else []))/\N.length<=1/\Hid (W.ownsRow lo 2 1 v N.length (nums N))/\Hid (eZ w W xb B m H s lv V BL (σ (ς ⟨g,0,ν⟩) A.length Y) A)/\lo<=W.1.size)
   case first=>
    by_cases kc:0<c
    ·have av:(0:Int)<(c:Int):=by omega
     have Z1:=an W3 (ξ #[J Z ((p:Int)-1)] 2);have t:=bj (yx Q) Z1;have G1:=(yx l).kept Z1;clear Z1;go_wp2_with (at_builtin;refine wpList_append_own _ rfl _ _ 128 rfl lo 2 i0 (J Z 0) 1 8 underlying128 ak aL aM aN rfl (by decide) _ _ _ rfl t ⟨W3.1.size,0,ν⟩ 1 1 [J Z ((p:Int)-1)] rfl rfl ?d2 (fun u hu=>by rw[List.mem_singleton.1 hu];rfl) ?d3 ?d4 ?d5 ?_)
     case d2=>first | exact fun j u h=>h | exact qD _ _ _
     case d3=>omega
     case d4=>omega
     case d5=>first | omega | (simp;omega)
     intro v7 V7 o d _;have G2:=yz (G1.byRow d (fun q e=>(t.lt q e).1) ay al az (yx R));have ao:=d.size
     have N2:Hid (V7.ownsRow lo 2 1 v7 (N ++ [p-1]).length (nums (N ++ [p-1]))):=yz (by
      rw[nJ,ϕ]
      have e:nums [p-1]=[J Z ((p:Int)-1)]:=by
       show [Value.int .i64 ((p-1:Nat):Int)]=_
       first | rfl | (congr 2;omega)
      rw[e]
      exact o)
     clear o d t G1;go_wp2;go_meet
     case rel=>exact⟨N ++ [p-1],by rw[if_pos kc,yx x],by rw[ϕ];show N.length+1<=_;omega,N2,G2,by simp at ao;omega⟩
    ·have av:¬(0:Int)<(c:Int):=by omega
     go_wp2;go_meet
     case rel=>exact⟨N,by rw[if_neg kc,List.append_nil,yx x],by omega,Q,l,C⟩
   case rest=>
   obtain⟨N',U,E,S,D,y⟩:=hcut;clear Q l x aj C;have x:=yz U;have aj:=E;have Q:=S;have l:=D;have C:=y;clear U E S D y N W3;generalize N'=N at *;generalize wc=W3 at *;go_upto_if 116 with fail;go_cut [14] from 35 to 167 (fun v W=>∃N:List Nat,N=(([] ++ (if 0<c then [p-1] else [])) ++ (if c<m-1 then [p+1] else []))/\N.length<=2/\Hid (W.ownsRow lo 2 1 v N.length (nums N))/\Hid (eZ w W xb B m H s lv V BL (σ (ς ⟨g,0,ν⟩) A.length Y) A)/\lo<=W.1.size)
   case first=>
    by_cases kc:c<m-1
    ·have av:(c:Int)<(m:Int)-1:=by omega
     have Z1:=an W3 (ξ #[J Z ((p:Int)+1)] 2);have t:=bj (yx Q) Z1;have G1:=(yx l).kept Z1;clear Z1;go_wp2_with (at_builtin;refine wpList_append_own _ rfl _ _ 128 rfl lo 2 i0 (J Z 0) 1 8 underlying128 ak aL aM aN rfl (by decide) _ _ _ rfl t ⟨W3.1.size,0,ν⟩ 1 1 [J Z ((p:Int)+1)] rfl rfl ?d2 (fun u hu=>by rw[List.mem_singleton.1 hu];rfl) ?d3 ?d4 ?d5 ?_)
     case d2=>first | exact fun j u h=>h | exact qD _ _ _
     case d3=>omega
     case d4=>omega
     case d5=>first | omega | (simp;omega)
     intro v7 V7 o d _;have G2:=yz (G1.byRow d (fun q e=>(t.lt q e).1) ay al az (yx R));have ao:=d.size
     have N2:Hid (V7.ownsRow lo 2 1 v7 (N ++ [p+1]).length (nums (N ++ [p+1]))):=yz (by
      rw[nJ,ϕ]
      have e:nums [p+1]=[J Z ((p:Int)+1)]:=by
       show [Value.int .i64 ((p+1:Nat):Int)]=_
       first | rfl | (congr 2;omega)
      rw[e]
      exact o)
     clear o d t G1;go_wp2;go_meet
     case rel=>exact⟨N ++ [p+1],by rw[if_pos kc,yx x],by rw[ϕ];show N.length+1<=_;omega,N2,G2,by simp at ao;omega⟩
    ·have av:¬(c:Int)<(m:Int)-1:=by omega
     go_wp2;go_meet
     case rel=>exact⟨N,by rw[if_neg kc,List.append_nil,yx x],by omega,Q,l,C⟩
   case rest=>
   obtain⟨N',U,E,S,D,y⟩:=hcut;clear Q l x aj C;have x:=yz U;have aj:=E;have Q:=S;have l:=D;have C:=y;clear U E S D y N W3;generalize N'=N at *;generalize wc=W3 at *;go_upto_if 123 with fail;go_cut [14] from 35 to 167 (fun v W=>∃N:List Nat,N=((([] ++ (if 0<c then [p-1] else [])) ++ (if c<m-1 then [p+1] else [])) ++ (if 0<r then [p-m] else []))/\N.length<=3/\Hid (W.ownsRow lo 2 1 v N.length (nums N))/\Hid (eZ w W xb B m H s lv V BL (σ (ς ⟨g,0,ν⟩) A.length Y) A)/\lo<=W.1.size)
   case first=>
    by_cases kc:0<r
    ·have av:(0:Int)<(r:Int):=by omega
     have Z1:=an W3 (ξ #[J Z ((p:Int)-(m:Int))] 2);have t:=bj (yx Q) Z1;have G1:=(yx l).kept Z1;clear Z1;go_wp2_with (at_builtin;refine wpList_append_own _ rfl _ _ 128 rfl lo 2 i0 (J Z 0) 1 8 underlying128 ak aL aM aN rfl (by decide) _ _ _ rfl t ⟨W3.1.size,0,ν⟩ 1 1 [J Z ((p:Int)-(m:Int))] rfl rfl ?d2 (fun u hu=>by rw[List.mem_singleton.1 hu];rfl) ?d3 ?d4 ?d5 ?_)
     case d2=>first | exact fun j u h=>h | exact qD _ _ _
     case d3=>omega
     case d4=>omega
     case d5=>first | omega | (simp;omega)
     intro v7 V7 o d _;have G2:=yz (G1.byRow d (fun q e=>(t.lt q e).1) ay al az (yx R));have ao:=d.size
     have N2:Hid (V7.ownsRow lo 2 1 v7 (N ++ [p-m]).length (nums (N ++ [p-m]))):=yz (by
      rw[nJ,ϕ]
      have e:nums [p-m]=[J Z ((p:Int)-(m:Int))]:=by
       show [Value.int .i64 ((p-m:Nat):Int)]=_
       first | rfl | (congr 2;omega)
      rw[e]
      exact o)
     clear o d t G1;go_wp2;go_meet
     case rel=>exact⟨N ++ [p-m],by rw[if_pos kc,yx x],by rw[ϕ];show N.length+1<=_;omega,N2,G2,by simp at ao;omega⟩
    ·have av:¬(0:Int)<(r:Int):=by omega
     go_wp2;go_meet
     case rel=>exact⟨N,by rw[if_neg kc,List.append_nil,yx x],by omega,Q,l,C⟩
   case rest=>
   obtain⟨N',U,E,S,D,y⟩:=hcut;clear Q l x aj C;have x:=yz U;have aj:=E;have Q:=S;have l:=D;have C:=y;clear U E S D y N W3;generalize N'=N at *;generalize wc=W3 at *;go_upto_if 133 with fail;go_cut [14] from 35 to 167 (fun v W=>∃N:List Nat,N=(((([] ++ (if 0<c then [p-1] else [])) ++ (if c<m-1 then [p+1] else [])) ++ (if 0<r then [p-m] else [])) ++ (if r<H-1 then [p+m] else []))/\N.length<=4/\Hid (W.ownsRow lo 2 1 v N.length (nums N))/\Hid (eZ w W xb B m H s lv V BL (σ (ς ⟨g,0,ν⟩) A.length Y) A)/\lo<=W.1.size)
   case first=>
    by_cases kc:r<H-1
    ·have av:(r:Int)<(H:Int)-1:=by omega
     have Z1:=an W3 (ξ #[J Z ((p:Int)+(m:Int))] 2);have t:=bj (yx Q) Z1;have G1:=(yx l).kept Z1;clear Z1;go_wp2_with (at_builtin;refine wpList_append_own _ rfl _ _ 128 rfl lo 2 i0 (J Z 0) 1 8 underlying128 ak aL aM aN rfl (by decide) _ _ _ rfl t ⟨W3.1.size,0,ν⟩ 1 1 [J Z ((p:Int)+(m:Int))] rfl rfl ?d2 (fun u hu=>by rw[List.mem_singleton.1 hu];rfl) ?d3 ?d4 ?d5 ?_)
     case d2=>first | exact fun j u h=>h | exact qD _ _ _
     case d3=>omega
     case d4=>omega
     case d5=>first | omega | (simp;omega)
     intro v7 V7 o d _;have G2:=yz (G1.byRow d (fun q e=>(t.lt q e).1) ay al az (yx R));have ao:=d.size
     have N2:Hid (V7.ownsRow lo 2 1 v7 (N ++ [p+m]).length (nums (N ++ [p+m]))):=yz (by
      rw[nJ,ϕ]
      have e:nums [p+m]=[J Z ((p:Int)+(m:Int))]:=by
       show [Value.int .i64 ((p+m:Nat):Int)]=_
       first | rfl | (congr 2;omega)
      rw[e]
      exact o)
     clear o d t G1;go_wp2;go_meet
     case rel=>exact⟨N ++ [p+m],by rw[if_pos kc,yx x],by rw[ϕ];show N.length+1<=_;omega,N2,G2,by simp at ao;omega⟩
    ·have av:¬(r:Int)<(H:Int)-1:=by omega
     go_wp2;go_meet
     case rel=>exact⟨N,by rw[if_neg kc,List.append_nil,yx x],by omega,Q,l,C⟩
   case rest=>
   obtain⟨N',U,E,S,D,y⟩:=hcut;clear Q l x aj C;have x:=yz U;have aj:=E;have Q:=S;have l:=D;have C:=y;clear U E S D y N W3;generalize N'=N at *;generalize wc=W3 at *
   have aZ:Hid (lh f p=N):=yz (by
    rw[JI f p c r (by rw[<-yx HF];exact yx aY) (by rw[<-yx HF];exact yx a0),yx x,<-yx HF]
    rfl)
   have bf:Hid (∀j,j<N.length->N.getD j 0<s.size):=yz (fun j hj=>by
    have h:=vV (f:=f) (i:=p) (by rw[yx ac];exact aI) (N.getD j 0) (by rw[yx aZ,List.getD,ϔ hj];exact List.getElem_mem hj);rw[yx ac]at h
    exact h)
   have bN:Hid (∀j,(gu f (V,A) (N.take j)).2.length<=s.size):=yz (fun j=>by
    have h:=wk (f:=f) (c:=cnt T f.n) (N.take j) (s:=(V,A)) (by have:=yx ab k;rw[yx ba]at this;exact this) (fun q hq=>vV (f:=f) (i:=p) (by rw[yx ac];exact aI) q (by rw[yx aZ];exact List.mem_of_mem_take hq));have:=h.len;rw[yx ac]at this
    omega)
   have am:Hid (∀q,(Value.slice (ς ⟨g,0,ν⟩) A.length Y).ownBlock=ς q->u14.ownBlock=ς q->False):=yz (fun q e1 e2=>by
    have h1:=yx R q e1;have h2:=((yx Q).lt q e2).1
    omega)
   have aV:Hid (eZ w W3 xb B m H s lv (gu f (V,A) (N.take 0)).1 BL (σ (ς ⟨g,0,ν⟩) A.length Y) (gu f (V,A) (N.take 0)).2):=l;clear l;go_wp2;go_loopw [8,15] (fun v jj wr=>∃j:Nat,j<=N.length/\jj=J Z j/\Hid (eZ w wr xb B m H s lv (gu f (V,A) (N.take j)).1 BL v (gu f (V,A) (N.take j)).2)/\Hid (wr.ownsRow lo 2 1 u14 N.length (nums N))/\Hid (∀q,v.ownBlock=ς q->u14.ownBlock=ς q->False)) (fun _ jj _=>N.length-(ώ jj).toNat)
   case atStart=>exact⟨0,ϓ _,rfl,aV,Q,am⟩
   case round=>
    clear aV Q am;obtain⟨j,hj,rfl,l,Q,am⟩:=hrel;by_cases aB:j<N.length
    ·have hq:=yx bf j aB
     have aQ:Hid (gu f (V,A) (N.take (j+1))=ld f (gu f (V,A) (N.take j)) (N.getD j 0)):=yz (by
      rw[List.take_succ_eq_append_getElem aB,List.getD,ϔ aB];unfold gu;rw[List.foldl_append]
      rfl)
     have bV:=yx bN j;obtain⟨nb,aX,aK,bs,P⟩:=CH (yx Q) (by omega);have cn:=P j _ (ue _ j aB);clear P;subst aK;generalize bo:gu f (V,A) (N.take j)=G2 at *;clear bo;obtain⟨T2,A2⟩:=G2;simp only at l bV;obtain⟨q,a7⟩:∃q,q=N.getD j 0:=⟨_,rfl⟩
     rw[<-a7]at hq aQ cn;have bg:=yz a7;clear a7;have cw:(j:Int)<(N.length:Int):=by omega
     have cG:(q:Int)<(s.size:Int):=by omega
     have cF:(0:Int)<=(q:Int):=by omega
     go_wp2_with fail;refine(te m H s lv xb B s.size q T2 _ rfl hq (yx l).look (yx l).seen).mono ?_;rintro e W4 ⟨rfl,hx⟩;rw[yx HF];have aa:=ap l hx;have aD:=yz (bj (yx Q) hx);have ch:=((yx aD).lt nb rfl).2;clear l Q hx cn;cases hl:mW f T2 q
     ·have aP:Hid (gu f (V,A) (N.take (j+1))=(T2,A2)):=yz (by rw[yx aQ];unfold ld;rw[if_neg (by simp[hl])]);have ai:Hid (eZ w W4 xb B m H s lv (gu f (V,A) (N.take (j+1))).1 BL u8 (gu f (V,A) (N.take (j+1))).2):=yz (by rw[yx aP];exact yx aa);go_wp2;go_roundw
      case rel=>exact⟨j+1,by omega,by go_num,ai,aD,am⟩
      case measure=>simp[ώ]<;>omega
     ·have aP:Hid (gu f (V,A) (N.take (j+1))=(mark T2 q,A2 ++ [q])):=yz (by rw[yx aQ];unfold ld;rw[if_pos hl]);clear hl aQ;have cn:W4.cell? ⟨nb,j,ν⟩=ς (J Z (q:Int)):=by rw[(yx aD).cellAt j (by omega),ue _ j aB,<-yx bg]
      have c4:=(yx aa).look.cell 4 _ rfl;have d0:=(yx aa).seen.cell hq;have df:=(yx aa).seen.free q;have ai:=yz ((yx aa).mark hq bx ls lx);have aO:Hid ((W4.setCell ⟨B,q,ν⟩ (β θ)).drew.ownsRow lo 2 1 (σ (ς ⟨nb,0,ν⟩) N.length aX) N.length (nums N)):=yz (Kb (gD (yx aD) (a:=⟨B,q,ν⟩) (β θ) al));have bZ:lo<=W4.1.size:=by omega
      go_upto_region 31 with fail;go_region
      generalize (W4.setCell ⟨B,q,ν⟩ (β θ)).drew=W5 at ai aO ⊢;clear cn c4 d0 df aa aD;have cn:W5.cell? ⟨nb,j,ν⟩=ς (J Z (q:Int)):=by rw[(yx aO).cellAt j (by omega),ue _ j aB,<-yx bg]
      have Z1:=an W5 (ξ #[J Z (q:Int)] 2);have a2:=(yx ai).kept Z1;have bd:=bj (yx aO) Z1;have cC:=((yx aO).lt nb rfl)
      have cJ:=(yx ai).blob.lt;clear Z1;have t:=a2.all;have cb:=aP;go_wp2_with (at_builtin;refine wpList_append_own_at _ rfl _ _ 128 rfl (w.1.size+2) 2 i0 (J Z 0) 1 8 underlying128 ak aL aM aN rfl (by decide) _ _ _ rfl t ⟨W5.1.size,0,ν⟩ 1 1 [J Z (q:Int)] rfl rfl ?d2 (fun u hu=>by rw[List.mem_singleton.1 hu];rfl) ?d3 ?d4 ?d5 ?_)
      case d2=>first | exact fun j u h=>h | exact qD _ _ _
      case d3=>omega
      case d4=>omega
      case d5=>first | omega | (simp;omega)
      intro v7 V7 o d _ bt;have bm:=a2.appended (q:=q) d o ls lx
      have bI:=yz (bd.kept d (by
       cases hv:u8.ownBlock with
       | none=>exact .inr (by simp[Value.ownBlock])
       | some z=>exact .inr (fun e=>yx am z hv e)))
      have be:Hid (∀z,v7.ownBlock=ς z->(Value.slice (ς ⟨nb,0,ν⟩) N.length aX).ownBlock=ς z->False):=yz (fun z e1 e2=>by
       rcases bt with h | h
       ·exact yx am z (by rw[<-h];exact e1) e2
       ·rw[e1]at h;have h:=Ϗ h;have e2:nb=z:=by simpa[Value.ownBlock] using e2
        have:z=W5.1.size+1:=by simpa using h
        omega)
      have bh:Hid (eZ w V7 xb B m H s lv (gu f (V,A) (N.take (j+1))).1 BL v7 (gu f (V,A) (N.take (j+1))).2):=yz (by rw[yx aP];exact bm);clear o d bt bm a2 t bd cn;go_wp2;go_roundw
      case rel=>exact⟨j+1,by omega,by go_num,bh,bI,be⟩
      case measure=>simp[ώ]<;>omega
    ·have bX:j=N.length:=by omega
     have bD:Hid (bi f T i (k+1)=gu f (V,A) (N.take j)):=yz (by rw[yx bJ,yx aZ,bX,List.take_length]);have aU:Hid (A <+: (bi f T i (k+1)).2):=yz (by have:=yq f T i k;rw[yx ba]at this;exact this)
     have a5:k+1<=(bi f T i (k+1)).2.length:=by
      have:=(yx aU).length_le;omega
     have bz:Hid (jC (iA f ((bi f T i (k+1)).2.take (k+1)))=BL):=yz (by
      have e1:(bi f T i (k+1)).2.take (k+1)=A.take (k+1):=by
       obtain⟨tl,b3⟩:=yx aU;rw[<-b3,List.take_append_of_le_length (by omega)]
      rw[e1,yx bR,zf,yx bB,yx bA,yx bG,yx bH,yx bL,yx aY,yx a0,<-yx HF];unfold jC xj jr
      simp)
     rw[<-yx bD]at l;have bM:=yz (yx l).all;have bQ:=yz (yx l).seen;have bF:=yz (yx l).look;have bP:=yz (yx l).res;have bE:=yz (yx l).grown;have bO:Hid (Blk wr (w.1.size+1) (jC (iA f ((bi f T i (k+1)).2.take (k+1)))) 176):=yz (by rw[yx bz];exact(yx l).blob);obtain⟨cm,bU,aK⟩:=cy (yx Q);subst aK;have cx:¬(j:Int)<(N.length:Int):=by omega
     clear l Q am;go_wp2;go_roundw
     case rel=>exact⟨k+1,a5,by go_num,bM,bQ,bF,bO,bP,bE⟩
     case measure=>simp[ώ]<;>omega
  ·have br:(bi f T i k).2.length<=k:=by omega
   have aT:Hid (bi f T i k=gO f T i):=yz (yc (by rw[yx ac];exact hi) (yx HT) br (by rw[yx ac];omega));have bS:Hid ((bi f T i k).2.take k=(bi f T i k).2):=yz (List.take_of_length_le br);rw[yx bS,yx aT]at HQ;rw[yx aT]at HS;have cc:Hid (jC (iA f (gO f T i).2)=jC (iA f (gO f T i).2)):=yz rfl;obtain⟨a8,cd,a9⟩:=cy (yx HO);have cA:¬(k:Int)<((bi f T i k).2.length:Int):=by omega
   subst a9;generalize aE:iA f (gO f T i).2=b at *;have bC:=yz aE;clear aE;obtain⟨ar,su,sx,sy,ed⟩:=b;obtain⟨q0,q1,q2,q3,q4⟩:=iZ (yx HQ);obtain⟨r0,r1,r2,r3,r4⟩:=iZ (yx HR);have g0:=tq (yx HR);simp only at q0 q1 q2 q3 q4;go_wp2_with fail;refine ϋ (v:=κ #[J Z ar,J Z su,J Z sx,J Z sy,β ed]) (by simp[results,results166,go_sem,r0,r1,r2,r3,r4]) rfl ⟨by rw[yx HF,yx bC];rfl,?_,?_⟩
   ·rw[yx HF];exact((((cu.other (yx HS) ⟨w.1.size,0,ν⟩ _ (show B≠w.1.size by omega)).other ⟨w.1.size,1,ν⟩ _ (show B≠w.1.size by omega)).other ⟨w.1.size,2,ν⟩ _ (show B≠w.1.size by omega)).other ⟨w.1.size,3,ν⟩ _ (show B≠w.1.size by omega)).other ⟨w.1.size,4,ν⟩ _ (show B≠w.1.size by omega)
   ·exact eE (eE (eE (eE (eE (yx HG) (ϐ _) _) (ϐ _) _) (ϐ _) _) (ϐ _) _) (ϐ _) _
end
section
theorem yA:(prog.info? 176).map (fun i=>(i.zero,i.size,i.bytes))=ς (ς (κ #[J Z 0,J Z 0,J Z 0,J Z 0,β φ]),5,40):=by kernel_rfl
theorem GZ:(prog.info? 4).map (fun i=>(i.zero,i.size,i.bytes))=ς (ς (β φ),1,1):=by kernel_rfl
theorem Iz(n:Nat)(h:n<=281474976710656):∃M:Array μ,(∀j,j<n->M[j]? = ς (β φ))/\∀W:ω,(Instr.makeSlice 214 (J Z (n:Int)) (J Z (n:Int))).run prog W=.ok (σ (ς ⟨W.1.size,0,ν⟩) n n) (W.alloc (ξ M 4)):=by
 obtain⟨d,f,a,b,c⟩:=info_parts GZ;refine⟨madeCells (Value.bool φ).cells (((n:Nat):Int).toNat*d.size),fun j g=>?_,fun W=>?_⟩
 ·rw[b,<-Array.getElem?_toList];have e:(Value.bool φ).cells = #[β φ]:=rfl;rw[e,toList_madeCells_one];simp[g]
 ·have h:=run_make (P:=prog) W 214 4 d (β φ) underlying214 f a .i64 .i64 (n:Int) (n:Int) (by omega) (by omega) (by rw[c];omega) (by omega);simpa using h
def fW(S:List Bl):List μ:=S.flatMap jC
theorem yj(A B:List Bl):fW (A ++ B)=fW A ++ fW B:=by unfold fW;rw[List.flatMap_append]
variable {s:ByteArray} {xs:List μ} {fb m ob sb xb:Nat} {T1:Nat->Bool} {t:TypeId} {v:μ} {w wx wy:ω}
theorem uV{S:List Bl}(h:v∈fW S):v.oneCell'=θ:=by
 unfold fW at h;rw[List.mem_flatMap]at h;obtain⟨p,_,a⟩:=h;simp[jC]at a;rcases a with rfl | rfl | rfl | rfl | rfl<;>rfl
def vI(lv:Int):Bool:=decide (0<=lv)&&decide (lv<=255)
def okB(wd ht:Int)(s:ByteArray)(lv:Int):Bool:=dP wd ht s&&vI lv
def xl(wd ht:Int)(s:ByteArray)(lv:Int):List Bl:=(bc (jr wd.toNat ht.toNat s lv) s.size).2
def mX(wd ht:Int)(s:ByteArray)(lv:Int):List Bl:=if okB wd ht s lv=θ then (if (xl wd ht s lv).length<=8 then xl wd ht s lv else []) else []
def oT(wd ht:Int)(s:ByteArray)(lv:Int):Int:=if okB wd ht s lv=θ then (if (xl wd ht s lv).length<=8 then 0 else 9) else 1
theorem ul{wd ht:Int}{lv:Int}(h:okB wd ht s lv=φ):mX wd ht s lv=[]/\oT wd ht s lv=1:=by unfold mX oT;rw[h];exact⟨rfl,rfl⟩
theorem yU{c a:Int}{b:Int}(h:okB c a s b=θ)(d:¬(xl c a s b).length<=8):mX c a s b=[]/\oT c a s b=9:=by unfold mX oT;rw[if_pos h,if_pos h,if_neg d,if_neg d];exact⟨rfl,rfl⟩
theorem CP{c a:Int}{b:Int}(h:okB c a s b=θ)(d:(xl c a s b).length<=8):mX c a s b=xl c a s b/\oT c a s b=0:=by unfold mX oT;rw[if_pos h,if_pos h,if_pos d,if_pos d];exact⟨rfl,rfl⟩
structure iD (w wx:ω) (fb ob xb sb:Nat) (wd ht:Nat) (s:ByteArray) (lv:Int) (T1:Nat->Bool):Prop where
 seen:iE wx sb s.size T1
 look:na wx xb wd ht s lv sb s.size
 fr:Blk wx fb [J Z wd,J Z ht,τ s] 27
 res:Blk wx ob [σ ν 0 0,J Z 0] 173
 bel:δ w.1.size w wx
theorem iD.kept{c ht:Nat}{b:Int}(h:iD w wx fb ob xb sb c ht s b T1)(a:δ wx.1.size wx wy):iD w wy fb ob xb sb c ht s b T1:=
 ⟨cu.kept h.seen a,Blk.kept h.look a,h.fr.kept a,h.res.kept a,ak h.bel a⟩
theorem iD.byRow{l i:Nat}{j:Int}{d:Option Nat}{c:Nat}(h:iD w wx fb ob xb sb l i s j T1)(a:wx.grownBy wy d)(r:∀g,d=ς g->c<=g)(m:fb<c)(n:ob<c)(o:xb<c)(p:sb<c)(t:w.1.size<=c):iD w wy fb ob xb sb l i s j T1:=by
 have f:∀b,b<c->ς b≠d:=fun b u e=>by have:=r b e.symm;omega
 refine⟨cu.grown h.seen a (f _ p),Blk.grown h.look a (f _ o),h.fr.grown a (f _ m),h.res.grown a (f _ n),h.bel.trans ⟨a.os,a.tape,a.output,a.size,fun k q=>a.block k (ϒ q h.bel.size) (f k (by omega))⟩⟩
theorem iD.seenBy{f c:Nat}{d:Int}{b:Nat->Bool}(h:iD w wx fb ob xb sb f c s d T1)(a:wx.grownBy wy (ς sb))(m:iE wy sb s.size b)(g:fb≠sb)(i:ob≠sb)(j:xb≠sb)(n:w.1.size<=sb):iD w wy fb ob xb sb f c s d b:=
 ⟨m,Blk.grown h.look a (fun e=>j (Ϗ e)),h.fr.grown a (fun e=>g (Ϗ e)),h.res.grown a (fun e=>i (Ϗ e)),h.bel.trans ⟨a.os,a.tape,a.output,a.size,fun k l=>a.block k (ϒ l h.bel.size) (fun e=>by have:=Ϗ e;omega)⟩⟩
theorem Hu(w:ω)(B:Nat)(h:B<=w.1.size):(w.alloc (ξ #[] 176)).ownsRow B 176 5 (σ (ς ⟨w.1.size,0,ν⟩) 0 0) 0 (fW []):=
 ⟨rfl,.inr ⟨_,0,#[],rfl,h,Array.getElem?_push_size,ϐ _,ϓ _,rfl,rfl⟩⟩
theorem fP{B B' n:Nat}(h:w.ownsRow B t m v n xs)(f:B'<=B):w.ownsRow B' t m v n xs:=by
 obtain⟨d,c⟩:=h;refine⟨d,?_⟩;rcases c with c | ⟨g,a,b,e,i,r⟩
 ·exact .inl c
 ·exact .inr ⟨g,a,b,e,by omega,r⟩
theorem CI{B n:Nat}(h:w.ownsRow B t m v n xs)(b:Nat)(a:∀z,v.ownBlock=ς z->z≠b)(x y:μ):((w.setCell ⟨b,0,ν⟩ x).setCell ⟨b,1,ν⟩ y).ownsRow B t m v n xs:=by
 have c:∀(w:ω) (i:Nat) (x:μ),w.grownBy (w.setCell ⟨b,i,ν⟩ x) (ς b):=fun w i x=>⟨rfl,rfl,rfl,by simp[World.setCell],fun k _ f=>Below.heap_setCell _ _ _ _ (fun e=>f (by rw[e]))⟩
 have d:v.ownBlock=ν\/v.ownBlock≠ς b:=by
  cases g:v.ownBlock with
  | none=>exact .inl rfl
  | some z=>exact .inr (fun e=>a z g (Ϗ e))
 exact(h.kept (c w 0 x) d).kept (c _ 1 y) d
theorem gp(w:ω)(a:List μ)(t:TypeId):∀(j:Nat) (u:μ),a[j]? = ς u->(w.alloc (ξ a.toArray t)).cell? ((⟨w.1.size,0,ν⟩:η).add j)=ς u:=by
 intro j u b;have e:(⟨w.1.size,0,ν⟩:η).add j=⟨w.1.size,j,ν⟩:=by cases j<;>simp[Addr.add]
 rw[e];simp[b]
theorem tK(p n:Int)(s:ByteArray)(a:Int)(w:ω)(hs:s.size<=maxLen):
  χ prog 135 #[κ #[J Z p,J Z n,τ s],J Z a] w fun e w'=>(∃v,e=ρ (κ #[v,J Z (oT p n s a)])/\w'.ownsRow w.1.size 176 5 v (mX p n s a).length (fW (mX p n s a)))/\δ w.1.size w w':=by
 have A0:=(aq w [J Z p,J Z n,τ s] 27).alloc (ξ #[σ ν 0 0,J Z 0] 173);have R0:=aq (w.alloc (ξ #[J Z p,J Z n,τ s] 27)) [σ ν 0 0,J Z 0] 173;have e1:(w.alloc (ξ #[J Z p,J Z n,τ s] 27)).1.size=w.1.size+1:=by simp
 rw[e1]at R0;have B0:=aJ w (ξ #[J Z p,J Z n,τ s] 27) (ξ #[σ ν 0 0,J Z 0] 173);clear e1;have cF:=yz (fun W=>ii p n s W);go_enter func135,ntmps135;go_wp2_with fail;generalize (w.alloc (ξ #[J Z p,J Z n,τ s] 27)).alloc (ξ #[σ ν 0 0,J Z 0] 173)=W0 at A0 R0 B0 ⊢;obtain⟨E,av⟩:∃E,E=w.1.size+1:=⟨_,rfl⟩
 obtain⟨H,ai⟩:∃H,H=w.1.size:=⟨_,rfl⟩
 rw[<-av]at R0 ⊢;rw[<-ai]at A0 ⊢;have a3:w.1.size<=H:=by omega
 have o:w.1.size<=E:=by omega
 have a4:H≠E:=by omega
 clear av ai;refine(yx cF _).mono ?_;rintro e d ⟨rfl,N⟩;have A1:=A0.kept N;have X:=R0.kept N;have B1:=ak B0 N;clear N A0 R0 B0;have r0:=X.cell 0 _ rfl;have r1:=X.cell 1 _ rfl;have g0:=X.free 0;have g1:=X.free 1;cases k1:dP p n s
 case false=>
  have y:=yz (ul (wd:=p) (ht:=n) (s:=s) (lv:=a) (by unfold okB;rw[k1];rfl));go_wp2_with fail;rw[(yx y).1,(yx y).2];exact ϋ (v:=κ #[σ ν 0 0,J Z 1]) (by simp[results,results135,go_sem,r0,r1]) rfl ⟨⟨_,rfl,World.ownsRow_nil _ _ _ _⟩,(B1.setCell o _).setCell o _⟩
 have a0:=dT (A1);go_wp2_with fail;refine(bP a 0 255 _).mono ?_;rintro e W2 ⟨rfl,hw⟩;rw[hw];clear hw W2;rw[show (decide (0<=a)&&decide (a<=255))=vI a from rfl];cases k2:vI a
 case false=>
  have y:=yz (ul (wd:=p) (ht:=n) (s:=s) (lv:=a) (by unfold okB;rw[k1,k2];rfl));go_wp2_with fail;rw[(yx y).1,(yx y).2];exact ϋ (v:=κ #[σ ν 0 0,J Z 1]) (by simp[results,results135,go_sem,r0,r1]) rfl ⟨⟨_,rfl,World.ownsRow_nil _ _ _ _⟩,(B1.setCell o _).setCell o _⟩
 have aw:okB p n s a=θ:=by unfold okB;rw[k1,k2];rfl
 obtain⟨f1,f2,f3,f4,f5⟩:=fF.1 k1;obtain⟨i,aP⟩:=Int.eq_ofNat_of_zero_le (show 0<=p by omega);obtain⟨g,aG⟩:=Int.eq_ofNat_of_zero_le (show 0<=n by omega);subst aP aG
 have az:s.size=i*g:=by
  have:((s.size:Nat):Int)=((i*g:Nat):Int):=by rw[f5];exact(Int.natCast_mul _ _).symm
  omega
 have aM:s.size<=192:=by have:=Nat.mul_le_mul (show i<=16 by omega) (show g<=12 by omega);omega
 have af:=yz az;have ad:=yz aw;clear az aw k1 k2 f5 hs;obtain⟨M,hM,aL⟩:=Iz s.size (by omega);obtain⟨i0,am,aQ,aR,aS⟩:=info_parts yA;have aZ:400<=maxLen:=by decide +kernel
 have aF:=A1.lt;have aN:=X.lt;go_upto_region 3 with fail;go_region
 have Z2:=aJ d (ξ M 4) (ξ #[J Z (i:Int),J Z (g:Int),τ s,J Z a,σ (ς ⟨d.1.size,0,ν⟩) s.size s.size] 216);have s0:iE (d.alloc (ξ M 4)) d.1.size s.size (fun _=>φ):=⟨M,heap_alloc_new d _,hM⟩
 have x0:=aq (d.alloc (ξ M 4)) (Ms i g s a d.1.size s.size) 216;have e1:(d.alloc (ξ M 4)).1.size=d.1.size+1:=by simp
 rw[e1]at x0
 have x:iD w ((d.alloc (ξ M 4)).alloc (ξ #[J Z (i:Int),J Z (g:Int),τ s,J Z a,σ (ς ⟨d.1.size,0,ν⟩) s.size s.size] 216)) H E (d.1.size+1) d.1.size i g s a (fun _=>φ):=
  ⟨cu.kept s0 (an _ _),x0,A1.kept Z2,X.kept Z2,ak B1 Z2⟩
 have e2:((d.alloc (ξ M 4)).alloc (ξ #[J Z (i:Int),J Z (g:Int),τ s,J Z a,σ (ς ⟨d.1.size,0,ν⟩) s.size s.size] 216)).1.size=d.1.size+1+1:=by simp
 have K:iD w ((d.alloc (ξ M 4)).alloc (ξ #[J Z (i:Int),J Z (g:Int),τ s,J Z a,σ (ς ⟨d.1.size,0,ν⟩) s.size s.size] 216)).drew H E (d.1.size+1) d.1.size i g s a (fun _=>φ):=⟨x.seen.drewn,Blk.drewn x.look,x.fr.drewn,x.res.drewn,x.bel.drew⟩
 have e3:((d.alloc (ξ M 4)).alloc (ξ #[J Z (i:Int),J Z (g:Int),τ s,J Z a,σ (ς ⟨d.1.size,0,ν⟩) s.size s.size] 216)).drew.1.size=d.1.size+1+1:=e2;clear x Z2 s0 x0 e1 e2 aL hM a0 r0 r1 g0 g1 A1 X;have aD:=B1.size;clear B1;generalize ((d.alloc (ξ M 4)).alloc (ξ #[J Z (i:Int),J Z (g:Int),τ s,J Z a,σ (ς ⟨d.1.size,0,ν⟩) s.size s.size] 216)).drew=W4 at K e3 ⊢;obtain⟨r,ay⟩:∃r,r=d.1.size:=⟨_,rfl⟩
 obtain⟨F,aa⟩:∃F,F=d.1.size+1:=⟨_,rfl⟩
 rw[<-aa,<-ay]at K;rw[<-aa];have aU:H<r:=by omega
 have aV:E<r:=by omega
 have aW:r<F:=by omega
 have au:w.1.size<=r:=by omega
 have aY:F<W4.1.size:=by omega
 clear ay aa aF aN aD e3;have c:=yz (K.kept (an W4 (ξ #[] 176)));have G:=yz (Hu W4 W4.1.size (ϐ _));clear K;generalize aj:jr i g s a=f;have HF:=yz aj;clear aj;have al:f.n=s.size:=by rw[<-yx HF];exact(yx af).symm
 have aX:=yz al;clear al;go_wp2_with fail;generalize aK:W4.1.size=T at *;clear aK;generalize W4.alloc (ξ #[] 176)=W5 at c G ⊢;go_loopw [6,7] (fun v kk wr=>∃k:Nat,k<=s.size/\kk=J Z k/\Hid (wr.ownsRow T 176 5 v (bc f k).2.length (fW (bc f k).2))/\Hid (iD w wr H E F r i g s a (bc f k).1)/\T<=wr.1.size) (fun _ kk _=>s.size-(ώ kk).toNat)
 case atStart=>exact⟨0,ϓ _,rfl,G,c,by have:=((yx G).lt T rfl).2;omega⟩
 case round=>
  clear G c;obtain⟨k,hk,rfl,G,c,R⟩:=hrel;have a2:=(yx c).fr.cell 2 _ rfl;by_cases ao:k<s.size
  ·have aT:(k:Int)<(s.size:Int):=by omega
   have t:Hid (bc f (k+1)=if mW f (bc f k).1 k=θ then ((gO f (bc f k).1 k).1,(bc f k).2 ++ [iA f (gO f (bc f k).1 k).2]) else bc f k):=yz rfl;have a1:=pA f k;generalize bc f k=Sc at *;obtain⟨P,S1⟩:=Sc;simp only at *;go_wp2_with fail;refine(te i g s a F r s.size k P _ rfl ao (yx c).look (yx c).seen).mono ?_;rintro e W6 ⟨rfl,N⟩;rw[yx HF];have m:=ap c N;have I:=yz (bj (yx G) N);have B:=ϑ R N.size;clear c G N a2 R;cases hl:mW f P k
   ·rw[hl]at t;have O:Hid (bc f (k+1)=(P,S1)):=t;have V:Hid (W6.ownsRow T 176 5 u6 (bc f (k+1)).2.length (fW (bc f (k+1)).2)):=yz (by rw[yx O];exact yx I);have A:Hid (iD w W6 H E F r i g s a (bc f (k+1)).1):=yz (by rw[yx O];exact yx m);go_wp2;go_roundw
    case rel=>exact⟨k+1,by omega,by go_num,V,A,B⟩
    case measure=>simp[ώ]<;>omega
   ·rw[hl,if_pos rfl]at t;have hT:=(vL hl).2;have cG:=yz (fun (W:ω) h1 h2=>AK i g s a F r k P W (by omega) (by omega) (by omega) (by omega) (yx af) ao hT (by omega) h1 h2);rw[yx HF]at cG;clear hl hT;generalize aE:gO f P k=Bp at *;clear aE;obtain⟨T2,Ab⟩:=Bp;simp only at t cG;generalize iA f Ab=b at *;obtain⟨ar,su,sx,sy,ed⟩:=b;have aB:Hid (∀W:ω,na W F i g s a r s.size->iE W r s.size P->χ prog 166 #[π (ς ⟨F,0,ν⟩),J Z k] W fun e w'=>e=ρ (κ #[J Z ar,J Z su,J Z sx,J Z sy,β ed])/\iE w' r s.size T2/\W.grownBy w' (ς r)):=cG;clear cG;go_wp2_with fail;refine(yx aB _ (yx m).look (yx m).seen).mono ?_;rintro e W7 ⟨rfl,ax,L⟩;have A:=yz ((yx m).seenBy L ax (by omega) (by omega) (by omega) au)
    have V:=yz ((yx I).kept L (by
     cases hv:u6.ownBlock with
     | none=>exact .inl rfl
     | some z=>exact .inr (fun e=>by have:=((yx I).lt z hv).1;have:=Ϗ e;omega)))
    have aI:=ϑ B L.size;clear ax L m I;have Z1:=an W7 (ξ #[J Z ar,J Z su,J Z sx,J Z sy,β ed] 176);have C:=bj (yx V) Z1;have ag:=(yx A).kept Z1;clear Z1;go_wp2_with (at_builtin;refine wpList_append_own _ rfl _ _ 171 rfl T 176 i0 (κ #[J Z 0,J Z 0,J Z 0,J Z 0,β φ]) 5 40 underlying171 am aQ aR aS rfl (by decide) _ _ _ rfl C ⟨W7.1.size,0,ν⟩ 1 1 (fW [⟨ar,su,sx,sy,ed⟩]) rfl rfl ?d2 (fun u hu=>uV hu) ?d3 ?d4 ?d5 ?_)
    case d2=>first | exact fun j u h=>h | exact gp _ _ _
    case d3=>omega
    case d4=>omega
    case d5=>first | omega | (simp;omega)
    intro v7 V7 D l _;have ah:=ag.byRow l (fun q e=>(C.lt q e).1) (by omega) (by omega) (by omega) (by omega) (by omega);have S:=l.size;have aA:Hid (V7.ownsRow T 176 5 v7 (bc f (k+1)).2.length (fW (bc f (k+1)).2)):=yz (by rw[yx t,yj,ϕ];exact D);have ae:Hid (iD w V7 H E F r i g s a (bc f (k+1)).1):=yz (by rw[yx t];exact ah);have Y:T<=V7.1.size:=by simp at S;omega
    clear D l C ag ah S;go_wp2;go_roundw
    case rel=>exact⟨k+1,by omega,by go_num,aA,ae,Y⟩
    case measure=>simp[ώ]<;>omega
  ·have aH:k=s.size:=by omega
   subst aH;have U:Hid (xl i g s a=(bc f s.size).2):=yz (by unfold xl;rw[<-yx HF];rfl);have r0:=(yx c).res.cell 0 _ rfl;have r1:=(yx c).res.cell 1 _ rfl;have g0:=(yx c).res.free 0;have g1:=(yx c).res.free 1;have hB:=(yx c).bel;obtain⟨a6,Q,aO⟩:=cy (yx G);subst aO;by_cases h8:(bc f s.size).2.length<=8
   ·have y:=yz (CP (yx ad) (by rw[yx U];exact h8));rw[yx U]at y;have aC:¬(8:Int)<((bc f s.size).2.length:Int):=by omega
    have ac:=fP (yx G) (show w.1.size<=T by omega)
    have ab:=CI ac E (by
     intro z e;have:=((yx G).lt z e).1
     omega) (σ a6 (bc f s.size).2.length Q) (J Z 0)
    clear ac;generalize bc f s.size=Sf at *;obtain⟨P,S1⟩:=Sf;simp only at *;go_wp2_with fail;rw[(yx y).1,(yx y).2];exact ϋ (v:=κ #[σ a6 S1.length Q,J Z 0]) (by simp[results,results135,go_sem,r0,r1]) rfl ⟨⟨_,rfl,ab⟩,(hB.setCell o _).setCell o _⟩
   ·have y:=yz (yU (yx ad) (by rw[yx U];exact h8));have aC:(8:Int)<((bc f s.size).2.length:Int):=by omega
    generalize bc f s.size=Sf at *;obtain⟨P,S1⟩:=Sf;simp only at *;go_wp2_with fail;rw[(yx y).1,(yx y).2];exact ϋ (v:=κ #[σ ν 0 0,J Z 9]) (by simp[results,results135,go_sem,r0,r1]) rfl ⟨⟨_,rfl,World.ownsRow_nil _ _ _ _⟩,(hB.setCell o _).setCell o _⟩
end
section
theorem qv:(prog.info? 93).map (fun i=>(i.zero,i.size,i.bytes))=ς (ς (κ #[J Z 0,J Z 0,J Z 0]),3,24):=by kernel_rfl
def Md(v:Int×Int×Int):List μ:=[J Z v.1,J Z v.2.1,J Z v.2.2]
def co(S:List (Int×Int×Int)):List μ:=S.flatMap Md
theorem og(A B:List (Int×Int×Int)):co (A ++ B)=co A ++ co B:=by unfold co;rw[List.flatMap_append]
theorem mg{S:List (Int×Int×Int)}{v:μ}(h:v∈co S):v.oneCell'=θ:=by
 unfold co at h;rw[List.mem_flatMap]at h;obtain⟨p,_,a⟩:=h;simp[Md]at a;rcases a with rfl | rfl | rfl<;>rfl
theorem yP(w:ω)(B:Nat)(h:B<=w.1.size):(w.alloc (ξ #[] 93)).ownsRow B 93 3 (σ (ς ⟨w.1.size,0,ν⟩) 0 0) 0 (co []):=
 ⟨rfl,.inr ⟨_,0,#[],rfl,h,Array.getElem?_push_size,ϐ _,ϓ _,rfl,rfl⟩⟩
def spT(wd ht:Int)(s:ByteArray)(fo:Int)(b:Bl):Int×Int×Int:=
 (spI (kH b.su b.sx b.sy wd ht s fo) (spX b.sx wd b.su) (spX b.sy ht b.su) (spZ fo b.su) (spX b.sx wd b.su),spI (kH b.su b.sx b.sy wd ht s fo) (spX b.sx wd b.su) (spX b.sy ht b.su) (spZ fo b.su) (spX b.sy ht b.su),spI (kH b.su b.sx b.sy wd ht s fo) (spX b.sx wd b.su) (spX b.sy ht b.su) (spZ fo b.su) (spZ fo b.su))
def vecG(v:Int×Int×Int):μ:=κ #[J Z v.1,J Z v.2.1,J Z v.2.2]
theorem My(d c:Int)(s:ByteArray)(a:Int)(b:Bl):spV b.su b.sx b.sy d c s a=vecG (spT d c s a b):=rfl
def sP(wd ht:Int)(s:ByteArray)(fo:Int)(b:Bl):Bool:=lG b.ar b.ed 1 20&&dA (spT wd ht s fo b).1 (spT wd ht s fo b).2.1 (spT wd ht s fo b).2.2
def eF(wd ht:Int)(s:ByteArray)(fo:Int)(S:List Bl):List (Int×Int×Int):=(S.filter (sP wd ht s fo)).map (spT wd ht s fo)
def bq(wd ht:Int)(s:ByteArray)(lv fo:Int):List (Int×Int×Int):=if ph fo=θ then eF wd ht s fo (mX wd ht s lv) else []
theorem wl(c b:Int)(s:ByteArray)(a:Int)(S:List Bl):(eF c b s a S).length<=S.length:=by
 unfold eF;rw[List.length_map];exact List.length_filter_le _ _
theorem yS(d c:Int)(s:ByteArray)(a:Int)(S:List Bl)(k:Nat)(b:Bl)(g:S[k]? = ς b):eF d c s a (S.take (k+1))=eF d c s a (S.take k) ++ (if sP d c s a b=θ then [spT d c s a b] else []):=by
 obtain⟨i,f⟩:=List.getElem?_eq_some_iff.1 g;have e:S.take (k+1)=S.take k ++ [b]:=by rw[List.take_succ_eq_append_getElem i,f]
 unfold eF;rw[e,List.filter_append,List.map_append];congr 1
 cases h:sP d c s a b
 ·rw[List.filter_cons_of_neg (by simp[h])];rfl
 ·rw[List.filter_cons_of_pos h];rfl
variable {s:ByteArray} {c fb:Nat} {a:Option η} {w wr wy:ω}
theorem uI{B n:Nat}{S:List Bl}(h:w.ownsRow B 176 5 (σ a n c) n (fW S))(F:n=S.length)(k:Nat)(b:Bl)(o:S[k]? = ς b):
  ∃g,a=ς ⟨g,0,ν⟩/\B<=g/\g<w.1.size/\w.cell? ⟨g,k*5,ν⟩=ς (J Z b.ar)/\w.cell? ⟨g,k*5+1,ν⟩=ς (J Z b.su)/\w.cell? ⟨g,k*5+2,ν⟩=ς (J Z b.sx)/\w.cell? ⟨g,k*5+3,ν⟩=ς (J Z b.sy)/\w.cell? ⟨g,k*5+4,ν⟩=ς (β b.ed):=by
 obtain⟨E,D⟩:=List.getElem?_eq_some_iff.1 o;rcases h.2 with ⟨C,A⟩ | ⟨g,p,l,z,r,m,y,s,t,d⟩
 ·omega
 ·injection z with e1 e2 e3
  have q:∀(S:List Bl) (k:Nat) (b:Bl),S[k]? = ς b->∀j u,(jC b)[j]? = ς u->(fW S)[k*5+j]? = ς u:=by
   intro S
   induction S with
   | nil=>intro k b h;simp at h
   | cons x S ih=>
    intro k b h j u f;have e:fW (x :: S)=jC x ++ fW S:=by unfold fW;simp
    have v:j<5:=(List.getElem?_eq_some_iff.1 f).1;rw[e];cases k with
    | zero=>
     simp at h;subst h;rw[List.getElem?_append_left (by show _<5;omega)];simpa using f
    | succ k=>
     rw[List.getElem?_append_right (by show 5<=_;omega)];rw[show (k+1)*5+j-(jC x).length=k*5+j by show _-5=_;omega];exact ih k b (by simpa using h) j u f
  have i:∀j u,(jC b)[j]? = ς u->w.cell? ⟨g,k*5+j,ν⟩=ς u:=by
   intro j u f;have v:j<5:=(List.getElem?_eq_some_iff.1 f).1;have e:=q S k b o j u f;rw[cell_of_row w g _ l _ _ m];rw[<-d,List.getElem?_take,if_pos (by omega)]at e;simpa using e
  exact⟨g,e1,r,(Array.getElem?_eq_some_iff.1 m).1,i 0 _ rfl,i 1 _ rfl,i 2 _ rfl,i 3 _ rfl,i 4 _ rfl⟩
theorem rW(c a:Int)(s:ByteArray)(b:Int):(mX c a s b).length<=8:=by
 unfold mX;split
 ·split
  ·assumption
  ·simp
 ·simp
structure StS (w wr:ω) (fb lo:Nat) (wd ht:Int) (s:ByteArray) (a:Option η) (n c:Nat) (S:List Bl):Prop where
 fr:Blk wr fb [J Z wd,J Z ht,τ s] 27
 bl:wr.ownsRow w.1.size 176 5 (σ a n c) n (fW S)
 lt:∀z,(Value.slice a n c).ownBlock=ς z->z<lo
 lf:fb<lo
 lw:w.1.size<=lo
 ll:lo<=wr.1.size
 bel:δ w.1.size w wr
theorem StS.kept{d:Nat}{e ht:Int}{n:Nat}{S:List Bl}(h:StS w wr fb d e ht s a n c S)(b:δ wr.1.size wr wy):StS w wy fb d e ht s a n c S:=
 ⟨h.fr.kept b,bj h.bl b,h.lt,h.lf,h.lw,ϑ h.ll b.size,ak h.bel b⟩
theorem StS.byRow{i:Nat}{m l:Int}{n:Nat}{S:List Bl}{f:Option Nat}(h:StS w wr fb i m l s a n c S)(d:wr.grownBy wy f)(p:∀g,f=ς g->i<=g):StS w wy fb i m l s a n c S:=by
 have j:∀b,b<i->ς b≠f:=fun b r e=>by have:=p b e.symm;omega
 refine⟨h.fr.grown d (j _ h.lf),h.bl.kept d ?_,h.lt,h.lf,h.lw,ϑ h.ll d.size,h.bel.trans ⟨d.os,d.tape,d.output,d.size,fun k o=>d.block k (ϒ o h.bel.size) (j k (by have:=h.lw;omega))⟩⟩;cases q:(Value.slice a n c).ownBlock with
 | none=>exact .inl rfl
 | some z=>exact .inr (fun e=>by have:=h.lt z q;exact j z this e)
theorem tN(d c:Int)(s:ByteArray)(E f:Int)(w:ω)(hs:s.size<=maxLen):
  χ prog 103 #[κ #[J Z d,J Z c,τ s],J Z E,J Z f] w fun e w'=>(∃v,e=ρ v/\w'.ownsRow w.1.size 93 3 v (bq d c s E f).length (co (bq d c s E f)))/\δ w.1.size w w':=by
 obtain⟨i0,ai,ay,az,aA⟩:=info_parts qv;have aG:400<=maxLen:=by decide +kernel
 have cB:=yz (fun W=>tK d c s E W hs);have aH:=rW d c s E;have HR:Hid (bq d c s E f=if ph f=θ then eF d c s f (mX d c s E) else []):=yz rfl;generalize oT d c s E=i at *;generalize mX d c s E=S at *;have A0:=aq w [J Z d,J Z c,τ s] 27;have B0:=an w (ξ #[J Z d,J Z c,τ s] 27);go_enter func103,ntmps103;go_wp2_with fail;generalize w.alloc (ξ #[J Z d,J Z c,τ s] 27)=W0 at A0 B0 ⊢;refine(yx cB _).mono ?_;rintro e t ⟨⟨v1,rfl,ho⟩,o⟩;obtain⟨C,D,rfl⟩:=cy ho;have aC:w.1.size<W0.1.size:=A0.lt;have O:StS w t w.1.size t.1.size d c s C S.length D S:=⟨A0.kept o,fP ho (by omega),fun z e=>(ho.lt z e).2,by have:=o.size;omega,by have:=o.size;omega,ϐ _,ak B0 o⟩
 have a:=an t (ξ #[σ C S.length D,J Z i] 173);have n:=O.kept a;have X1:=aq t [σ C S.length D,J Z i] 173;clear ho o a A0 B0 cB O;have x0:=X1.cell 0 _ rfl;have x1:=X1.cell 1 _ rfl;have Y:(t.alloc (ξ #[σ C S.length D,J Z i] 173)).1.size=t.1.size+1:=by simp
 have a:=an (t.alloc (ξ #[σ C S.length D,J Z i] 173)) (ξ #[] 93);have r:StS w _ w.1.size (t.1.size+1) d c s C S.length D S:=(show StS w (t.alloc (ξ #[σ C S.length D,J Z i] 173)) w.1.size (t.1.size+1) d c s C S.length D S from ⟨n.fr,n.bl,fun z e=>Nat.lt_succ_of_lt (n.lt z e),Nat.lt_succ_of_lt n.lf,Nat.le_succ_of_le n.lw,by omega,n.bel⟩).kept a;have Q:=yz (X1.kept a);have K:=yz (yP (t.alloc (ξ #[σ C S.length D,J Z i] 173)) (t.1.size+1) (by omega));have m:=yz r;have aJ:t.1.size<t.1.size+1:=Nat.lt_succ_self _;rw[Y]at K;clear a n r X1 Y;go_wp2_with fail;clear x0 x1;generalize (t.alloc (ξ #[σ C S.length D,J Z i] 173)).alloc (ξ #[] 93)=W2 at m Q K ⊢;generalize t.1.size+1=lo at *;generalize t.1.size=xb at *;refine(bP f 1 40 _).mono ?_;rintro e W3 ⟨rfl,rfl⟩;have ag:(decide (1<=f)&&decide (f<=40))=ph f:=isD _ _ _;rw[ag];clear ag;cases hf:ph f
 ·rw[hf]at HR;have au:Hid (bq d c s E f=[]):=HR;go_wp2;go_ret;rw[yx au];exact⟨⟨_,rfl,fP (yx K) (yx m).lw⟩,(yx m).bel⟩
 rw[hf,if_pos rfl]at HR;clear hf;go_wp2;go_loopw [8,9] (fun v kk wr=>∃k:Nat,k<=S.length/\kk=J Z k/\Hid (wr.ownsRow lo 93 3 v (eF d c s f (S.take k)).length (co (eF d c s f (S.take k))))/\Hid (StS w wr w.1.size lo d c s C S.length D S)/\Hid (Blk wr xb [σ C S.length D,J Z i] 173)) (fun _ kk _=>S.length-(ώ kk).toNat)
 case atStart=>exact⟨0,by omega,rfl,K,m,Q⟩
 case round=>
  clear K m Q;obtain⟨k,hk,rfl,K,m,Q⟩:=hrel;have x0:=(yx Q).cell 0 _ rfl;have x1:=(yx Q).cell 1 _ rfl;by_cases ax:k<S.length
  ·have aB:(k:Int)<(S.length:Int):=by omega
   obtain⟨b,hb⟩:∃b,S[k]? = ς b:=⟨S[k],ϔ ax⟩
   have B:=yz (yS d c s f S k b hb);have aI:(eF d c s f (S.take k)).length<=8:=by have:=wl d c s f (S.take k);have:=List.length_take_le k S;omega
   obtain⟨g,ha,aD,aE,c0,af,c2,c3,c4⟩:=uI (yx m).bl rfl k b hb;subst ha;clear hb;have ac:=yz (My d c s f b);have I:Hid (sP d c s f b=(lG b.ar b.ed 1 20&&dA (spT d c s f b).1 (spT d c s f b).2.1 (spT d c s f b).2.2)):=yz rfl;generalize spT d c s f b=q at *;generalize sP d c s f b=kp at *;obtain⟨L,M,N⟩:=q;obtain⟨ar,su,sx,sy,ed⟩:=b;have P:Hid (spV su sx sy d c s f=κ #[J Z L,J Z M,J Z N]):=ac;have l:Hid (kp=(lG ar ed 1 20&&dA L M N)):=I;clear ac I;simp only at c0 af c2 c3 c4;have a:=an wr (ξ #[J Z ar,J Z su,J Z sx,J Z sy,β ed] 176);have r:=ap m a;have aa:=yz (bj (yx K) a);have ad:=ap Q a;have D2:=aq wr [J Z ar,J Z su,J Z sx,J Z sy,β ed] 176;clear a m K Q;have d0:=iZ (D2);go_wp2_with fail;clear c0 af c2 c3 c4 x0 x1;refine(sj ar su sx sy ed 1 20 _).mono ?_;rintro e W3 ⟨rfl,o⟩;have x:=ap r o;have F:=yz (bj (yx aa) o);have U:=ap ad o;have D3:=D2.kept o;clear o r aa D2 d0 ad;cases ah:lG ar ed 1 20
   ·rw[ah]at l;have I:Hid (kp=φ):=l;rw[yx I,if_neg (by simp),List.append_nil]at B;have al:Hid (W3.ownsRow lo 93 3 u8 (eF d c s f (S.take (k+1))).length (co (eF d c s f (S.take (k+1))))):=yz (by rw[yx B];exact yx F);go_wp2;go_roundw
    case rel=>exact⟨k+1,by omega,by go_num,al,x,U⟩
    case measure=>simp[ώ]<;>omega
   rw[ah,Bool.true_and]at l;have d0:=iZ (D3);have f0:=dT ((yx x).fr);go_wp2_with fail;refine(wI ar su sx sy ed d c s f _).mono ?_;rintro e W4 ⟨rfl,o⟩;rw[yx P];clear P;have a:=an W4 (ξ #[J Z L,J Z M,J Z N] 93);have G:=aW x o a;have R:=yz (bj (bj (yx F) o) a);have V:=aW U o a;have E5:=aq W4 [J Z L,J Z M,J Z N] 93;clear o a x F D3 d0 f0 U;obtain⟨e0,Y,e2⟩:=dT (E5);go_wp2_with fail;generalize W4.alloc (ξ #[J Z L,J Z M,J Z N] 93)=W5 at G R E5 e0 Y e2 V ⊢;generalize W4.1.size=vb at *;clear e0 Y e2;refine(sQ L M N _).mono ?_;rintro e W6 ⟨rfl,o⟩;have y:=ap G o;have T:=yz (bj (yx R) o);have X:=ap V o;have E6:=E5.kept o;clear o G R E5 V;cases aj:dA L M N
   ·rw[aj]at l;rw[yx l,if_neg (by simp),List.append_nil]at B;have am:Hid (W6.ownsRow lo 93 3 u8 (eF d c s f (S.take (k+1))).length (co (eF d c s f (S.take (k+1))))):=yz (by rw[yx B];exact yx T);go_wp2;go_roundw
    case rel=>exact⟨k+1,by omega,by go_num,am,y,X⟩
    case measure=>simp[ώ]<;>omega
   ·rw[aj]at l;rw[yx l,if_pos rfl]at B;obtain⟨e0,Y,e2⟩:=dT (E6);have Z1:=an W6 (ξ #[J Z L,J Z M,J Z N] 93);have A:=bj (yx T) Z1;have ae:=(yx y).kept Z1;have aF:=(yx y).ll;have X7:=(yx X).kept Z1;clear Z1 T y X;generalize eF d c s f (S.take k)=Pk at *;go_wp2_with (at_builtin;refine wpList_append_own _ rfl _ _ 25 rfl lo 93 i0 (κ #[J Z 0,J Z 0,J Z 0]) 3 24 underlying25 ai ay az aA rfl (by decide) _ _ _ rfl A ⟨W6.1.size,0,ν⟩ 1 1 (co [(L,M,N)]) rfl rfl ?d2 (fun u hu=>mg hu) ?d3 ?d4 ?d5 ?_)
    case d2=>first | exact fun j u h=>h | exact gp _ _ _
    case d3=>omega
    case d4=>omega
    case d5=>first | omega | (simp;omega)
    intro v7 V7 H p _;have ab:=yz (ae.byRow p (fun q e=>(A.lt q e).1));have av:=yz (X7.grown p (fun e=>by have:=(A.lt _ e.symm).1;omega));have ao:Hid (V7.ownsRow lo 93 3 v7 (eF d c s f (S.take (k+1))).length (co (eF d c s f (S.take (k+1))))):=yz (by rw[yx B,og,ϕ];exact H);clear H p A ae e0 Y e2 E6;go_wp2;go_roundw
    case rel=>exact⟨k+1,by omega,by go_num,ao,ab,av⟩
    case measure=>simp[ώ]<;>omega
  ·have aw:k=S.length:=by omega
   have F:Hid (wr.ownsRow lo 93 3 u8 (bq d c s E f).length (co (bq d c s E f))):=yz (by
    have h:=yx K;rw[aw,List.take_length]at h;rw[yx HR]
    exact h)
   go_wp2;go_ret;exact⟨⟨_,rfl,fP (yx F) (yx m).lw⟩,(yx m).bel⟩
end
section
def fG(wd ht x y:Int):Bool:=decide (0<=x/\x<wd/\0<=y/\y<ht)
theorem GY(c b:Int)(s:ByteArray)(x y:Int)(w:ω):
  χ prog 206 #[κ #[J Z c,J Z b,τ s],κ #[J Z x,J Z y]] w fun e h=>e=ρ (β (fG c b x y))/\δ w.1.size w h:=by
 by_cases d:0<=x
 case neg=>
  have a:Hid (fG c b x y=φ):=yz (decide_eq_false (by omega));go_enter func206,ntmps206;go_wp2;go_ret;exact⟨by rw[yx a];rfl,aJ _ _ _⟩
 by_cases f:x<c
 case neg=>
  have a:Hid (fG c b x y=φ):=yz (decide_eq_false (by omega));go_enter func206,ntmps206;go_wp2;go_ret;exact⟨by rw[yx a];rfl,aJ _ _ _⟩
 by_cases g:0<=y
 case neg=>
  have a:Hid (fG c b x y=φ):=yz (decide_eq_false (by omega));go_enter func206,ntmps206;go_wp2;go_ret;exact⟨by rw[yx a];rfl,aJ _ _ _⟩
 have a:Hid (fG c b x y=decide (y<b)):=yz (by unfold fG;simp[d,f,g]);go_enter func206,ntmps206;go_wp2;go_ret;exact⟨by rw[yx a];rfl,aJ _ _ _⟩
theorem yG(a d:Nat)(s:ByteArray)(x y:Nat)(w:ω)(p:a<=16)(t:d<=12)(j:s.size=a*d)(v:x<a)(z:y<d):
  χ prog 207 #[κ #[J Z a,J Z d,τ s],κ #[J Z x,J Z y]] w fun e q=>e=ρ (J Z (bK s (y*a+x):Nat))/\δ w.1.size w q:=by
 have h:y*a+x<s.size:=by
  rw[j];have:=Nat.mul_le_mul_left a (show y+1<=d by omega);rw[Nat.mul_add,Nat.mul_one,Nat.mul_comm a y]at this;omega
 obtain⟨i,c⟩:∃i,i=y*a+x:=⟨_,rfl⟩
 obtain⟨m,b⟩:∃m,m=y*a:=⟨_,rfl⟩
 have u:(y:Int)*(a:Int)=(m:Int):=by rw[b];exact(Int.natCast_mul _ _).symm
 have o:(m:Int)+(x:Int)=(i:Int):=by omega
 have n:m<=192:=by rw[b];have:=Nat.mul_le_mul (show y<=12 by omega) p;omega
 rw[<-c]at h ⊢;have l:(i:Int)<(s.size:Int):=by omega
 have k:(0:Int)<=(i:Int):=by omega
 have r:=yz (eB h);have f:ύ (s[i].toNat:Int)=((bK s i:Nat):Int):=by rw[eB h];exact au (by omega) (by have:=s[i].toNat_lt;omega)
 have g:=yz f;clear c b j f;go_enter func207,ntmps207;go_wp2;go_ret;exact⟨by rw[<-yx g];rfl,aJ _ _ _⟩
def mP(wd ht x y:Int):Bool:=decide (x=0) || decide (x=wd-1) || decide (y=0) || decide (y=ht-1)
theorem DK(a b:Int)(s:ByteArray)(x y:Int)(w:ω)(m:1<=a)(n:a<=16)(o:1<=b)(p:b<=12):
  χ prog 217 #[κ #[J Z a,J Z b,τ s],κ #[J Z x,J Z y]] w fun e l=>e=ρ (β (mP a b x y))/\δ w.1.size w l:=by
 by_cases d:x=0
 ·have h:(x==0)=θ:=by simp[d]
  have c:Hid (mP a b x y=θ):=yz (by unfold mP;simp[d]);clear d;go_enter func217,ntmps217;go_wp2;go_ret;exact⟨by rw[yx c];rfl,aJ _ _ _⟩
 have i:(x==0)=φ:=by simp[d]
 by_cases f:x=a-1
 ·have h:(x==a-1)=θ:=by simp[f]
  have c:Hid (mP a b x y=θ):=yz (by unfold mP;simp[f]);clear f;go_enter func217,ntmps217;go_wp2;go_ret;exact⟨by rw[yx c];rfl,aJ _ _ _⟩
 have j:(x==a-1)=φ:=by simp[f]
 by_cases g:y=0
 ·have h:(y==0)=θ:=by simp[g]
  have c:Hid (mP a b x y=θ):=yz (by unfold mP;simp[g]);clear g;go_enter func217,ntmps217;go_wp2;go_ret;exact⟨by rw[yx c];rfl,aJ _ _ _⟩
 have k:(y==0)=φ:=by simp[g]
 have c:Hid (mP a b x y=decide (y=b-1)):=yz (by unfold mP;simp[d,f,g]);go_enter func217,ntmps217;go_wp2;go_ret;exact⟨by rw[yx c];rfl,aJ _ _ _⟩
theorem DN(x y:Nat)(w:ω)(b:x<=16)(c:y<=12):
  χ prog 218 #[κ #[J Z x,J Z y]] w fun e a=>e=ρ (κ #[J Z ((x:Int)-1),J Z y,J Z ((x:Int)+1),J Z y,J Z x,J Z ((y:Int)-1),J Z x,J Z ((y:Int)+1)])/\δ w.1.size w a:=by
 go_enter func218,ntmps218;go_wp2;exact ϋ (v:=κ #[J Z ((x:Int)-1),J Z y,J Z ((x:Int)+1),J Z y,J Z x,J Z ((y:Int)-1),J Z x,J Z ((y:Int)+1)]) (by simp[results,results218,go_sem]) rfl ⟨rfl,aJ _ _ _⟩
def dC(w:ω)(tb wd ht:Nat)(T:Nat->Bool):Prop:=∃g:Nat->Bool,cu w 265 tb 192 (fun j=>β (g j))/\∀x y,x<wd->y<ht->g (y*16+x)=T (y*wd+x)
variable {tb:Nat} {T:Nat->Bool} {w:ω}
theorem dC.kept{a:ω}{b ht:Nat}(h:dC w tb b ht T)(c:δ w.1.size w a):dC a tb b ht T:=by
 obtain⟨g,e,d⟩:=h;exact⟨g,e.kept c,d⟩
theorem dC.drewn{b a:Nat}(h:dC w tb b a T):dC w.drew tb b a T:=by
 obtain⟨g,d,c⟩:=h;exact⟨g,d.drewn,c⟩
theorem dC.lt{c b:Nat}(h:dC w tb c b T):tb<w.1.size:=by
 obtain⟨g,a,d⟩:=h;exact a.lt
theorem FI{wd x y a b:Nat}(g:x<wd)(c:a<wd)(h:y*wd+x=b*wd+a):x=a/\y=b:=by
 have e:(y*wd+x) % wd=x:=by rw[Nat.mul_comm,Nat.mul_add_mod];exact Nat.mod_eq_of_lt g
 have f:(b*wd+a) % wd=a:=by rw[Nat.mul_comm,Nat.mul_add_mod];exact Nat.mod_eq_of_lt c
 have d:x=a:=by rw[<-e,h,f]
 refine⟨d,?_⟩;have:y*wd=b*wd:=by omega
 exact Nat.eq_of_mul_eq_mul_right (by omega) this
theorem dC.set{a f:Nat}(h:dC w tb a f T)(q:a<=16){x y:Nat}(p:x<a)(r:y<f):dC (w.setCell ⟨tb,y*16+x,ν⟩ (β θ)) tb a f (mark T (y*a+x)):=by
 obtain⟨g,o,n⟩:=h;refine⟨fun j=>if j=y*16+x then θ else g j,(o.set (y*16+x) (β θ)).congr (fun j _=>by by_cases e:j=y*16+x<;>simp[e]),fun k l b i=>?_⟩;unfold mark;by_cases e:l*16+k=y*16+x
 ·obtain⟨c,d⟩:=FI (wd:=16) (by omega) (by omega) e;subst c d;simp
 ·have m:¬l*a+k=y*a+x:=fun h=>by
   obtain⟨c,d⟩:=FI b p h;subst c d;exact e rfl
  simp only[if_neg e,if_neg m];exact n k l b i
def Li(w:ω)(fb:Nat)(wd ht:Int)(s:ByteArray):Prop:=Blk w fb [J Z wd,J Z ht,τ s] 27
theorem Dq(x y c d i:Nat)(T:Nat->Bool)(w:ω)(s:d<=16)(E:i<=12)(t:x<d)(v:y<i)(o:dC w c d i T):
  χ prog 208 #[κ #[J Z x,J Z y],π (ς ⟨c,0,ν⟩)] w fun e q=>e=ρ (.tuple #[])/\dC q c d i (mark T (y*d+x))/\w.grownBy q (ς c):=by
 have f:=aq w [J Z x,J Z y] 267;have b:=an w (ξ #[J Z x,J Z y] 267);have m:=o.kept b;have F:=o.lt;have u:(x:Int)<16:=by omega
 have z:(y:Int)<12:=by omega
 go_enter func208,ntmps208;go_wp2_with fail;generalize w.alloc (ξ #[J Z (x:Int),J Z (y:Int)] 267)=n at f b m ⊢;have A:=f.cell 0 _ rfl;have B:=f.cell 1 _ rfl;obtain⟨g,h,p⟩:=m;have C:=h.cell (j:=y*16+x) (by omega);have D:=h.free (y*16+x);have l:=yz (dC.set (T:=T) ⟨g,h,p⟩ s t v);have a:Hid (w.grownBy (n.setCell ⟨c,y*16+x,ν⟩ (β θ)) (ς c)):=yz (MK (⟨b.os,b.tape,b.output,b.size,fun k r _=>b.block k r⟩:w.grownBy n (ς c)) _ _);clear h p b f;go_region
 go_wp2_with fail;go_end0
 exact⟨rfl,dC.drewn (yx l),⟨(yx a).os,(yx a).tape,(yx a).output,(yx a).size,(yx a).block⟩⟩
def xE(wd ht:Nat)(s:ByteArray)(lv:Int)(T:Nat->Bool)(x y:Int):Bool:=fG wd ht x y&&mW (jr wd ht s lv) T (y.toNat*wd+x.toNat)
theorem qz(x y:Int)(K Q R a b:Nat)(s:ByteArray)(f:Int)(T:Nat->Bool)(w:ω)(Y:a<=16)(V:b<=12)(X:s.size=a*b)(L:Li w K a b s)(M:Blk w Q [J Z f] 2)(N:dC w R a b T):
  χ prog 205 #[κ #[J Z x,J Z y],π (ς ⟨K,0,ν⟩),π (ς ⟨Q,0,ν⟩),π (ς ⟨R,0,ν⟩)] w fun e w'=>e=ρ (β (xE a b s f T x y))/\δ w.1.size w w':=by
 have z:=aq w [J Z x,J Z y] 267;have i:=an w (ξ #[J Z x,J Z y] 267);have u:=Blk.kept L i;have F:=Blk.kept M i;have G:=N.kept i;go_enter func205,ntmps205;go_wp2_with fail;generalize w.alloc (ξ #[J Z x,J Z y] 267)=A at z i u F G ⊢;clear L M N;have c0:=ϊ (z.cell 0 _ rfl);have c1:=ϊ (z.cell 1 _ rfl);have f0:=ϊ (u.cell 0 _ rfl);have f1:=ϊ (u.cell 1 _ rfl);have f2:=ϊ (u.cell 2 _ rfl);have l0:=ϊ (F.cell 0 _ rfl);have n:=yz (fun W=>GY a b s x y W);cases l:fG a b x y
 ·rw[l]at n;have v:Hid (xE a b s f T x y=φ):=yz (by unfold xE;rw[l];rfl);clear l;refine de ?_;repeat (go_big_quiet_step (with_reducible first | exact aH n))
  refine di fun o h=>?_;have r:=ak i (ό A o h);go_wp2;go_ret;exact⟨by rw[yx v];rfl,r⟩
 ·rw[l]at n;obtain⟨S,h2,U,h4⟩:=of_decide_eq_true l;obtain⟨c,D⟩:=Int.eq_ofNat_of_zero_le S;obtain⟨d,E⟩:=Int.eq_ofNat_of_zero_le U;subst D E;have v:Hid (xE a b s f T c d=mW (jr a b s f) T (d*a+c)):=yz (by unfold xE;rw[l];rfl);clear l;have H:=yz (fun W=>yG a b s c d W Y V X (by omega) (by omega));obtain⟨g,P,O⟩:=G;have I:=P.cell (j:=d*16+c) (by omega);have p:=O c d (by omega) (by omega);have q0:=ϊ I;have m:Hid (mW (jr a b s f) T (d*a+c)=(decide (f<((bK s (d*a+c):Nat):Int)) && !g (d*16+c))):=yz (by rw[p];rfl);clear P O p I;generalize mW (jr a b s f) T (d*a+c)=ac at *;generalize g (d*16+c)=t at *;generalize bK s (d*a+c)=B at *;have aa:(c:Int)<16:=by omega
  have ab:(d:Int)<12:=by omega
  by_cases q:f<(B:Int)
  ·have C:decide (f<(B:Int))=θ:=decide_eq_true q;have k:Hid (xE a b s f T c d = !t):=yz (by rw[yx v,yx m,C,Bool.true_and]);refine de ?_;repeat (go_big_quiet_step (with_reducible first | exact aH n | exact aH H))
   refine di fun o h=>?_;have r:=ak i (ό A o h);go_wp2;go_ret;exact⟨by rw[yx k];rfl,r⟩
  ·have C:decide (f<(B:Int))=φ:=decide_eq_false q;have k:Hid (xE a b s f T c d=φ):=yz (by rw[yx v,yx m,C,Bool.false_and]);refine de ?_;repeat (go_big_quiet_step (with_reducible first | exact aH n | exact aH H))
   refine di fun o h=>?_;have r:=ak i (ό A o h);go_wp2;go_ret;exact⟨by rw[yx k];rfl,r⟩
end
section
def IJ(c:Nat):Nat->Int
 | 0=>(c:Int)-1
 | 1=>(c:Int)+1
 | _=>(c:Int)
def IK(r:Nat):Nat->Int
 | 2=>(r:Int)-1
 | 3=>(r:Int)+1
 | _=>(r:Int)
def xD(f:Fr)(T:Nat->Bool)(x y:Int):Bool:=fG f.wd f.ht x y&&mW f T (y.toNat*f.wd+x.toNat)
def dJ(f:Fr)(s:(Nat->Bool)×List Nat)(x y:Int):(Nat->Bool)×List Nat:=if xD f s.1 x y=θ then (mark s.1 (y.toNat*f.wd+x.toNat),s.2 ++ [y.toNat*f.wd+x.toNat]) else s
def ce(f:Fr)(s:(Nat->Bool)×List Nat)(c r:Nat):Nat->(Nat->Bool)×List Nat
 | 0=>s
 | m+1=>dJ f (ce f s c r m) (IJ c m) (IK r m)
variable {x:Int}
theorem oB{f:Fr}{s:(Nat->Bool)×List Nat}{y:Int}(h:fG f.wd f.ht x y=φ):dJ f s x y=s:=by unfold dJ xD;rw[h,Bool.false_and,if_neg (by simp)]
theorem re{f:Fr}{s:(Nat->Bool)×List Nat}{y:Int}{q:Nat}(h:fG f.wd f.ht x y=θ)(a:y.toNat*f.wd+x.toNat=q):dJ f s x y=ld f s q:=by unfold dJ xD ld;rw[h,Bool.true_and,a]
theorem Kv{f:Fr}{p:Nat}(e:p<f.n)(s:(Nat->Bool)×List Nat):ce f s (p % f.wd) (p / f.wd) 4=gu f s (lh f p):=by
 have i:0<f.wd:=by
  rcases Nat.eq_zero_or_pos f.wd with h | h
  ·rw[Fr.n,h,Nat.zero_mul]at e;omega
  ·exact h
 have g:=Nat.div_add_mod p f.wd;have d:=Nat.mod_lt p i;have b:p / f.wd<f.ht:=Nat.div_lt_of_lt_mul e;unfold lh;generalize n:p % f.wd=c at *;generalize o:p / f.wd=r at *;have a:r*f.wd=f.wd*r:=Nat.mul_comm _ _;show dJ f (dJ f (dJ f (dJ f s ((c:Int)-1) r) ((c:Int)+1) r) c ((r:Int)-1)) c ((r:Int)+1)=_;unfold gu;rw[List.foldl_append,List.foldl_append,List.foldl_append]
 have j:∀s,dJ f s ((c:Int)-1) r=(if 0<c then [p-1] else []).foldl (ld f) s:=fun s=>by
  by_cases h:0<c
  ·rw[if_pos h,re (q:=p-1) (decide_eq_true (by omega))]
   ·rfl
   ·rw[show ((c:Int)-1).toNat=c-1 by omega,Int.toNat_natCast];omega
  ·rw[if_neg h,oB (decide_eq_false (by omega))];rfl
 have k:∀s,dJ f s ((c:Int)+1) r=(if c<f.wd-1 then [p+1] else []).foldl (ld f) s:=fun s=>by
  by_cases h:c<f.wd-1
  ·rw[if_pos h,re (q:=p+1) (decide_eq_true (by omega))]
   ·rfl
   ·rw[show ((c:Int)+1).toNat=c+1 by omega,Int.toNat_natCast];omega
  ·rw[if_neg h,oB (decide_eq_false (by omega))];rfl
 have l:∀s,dJ f s c ((r:Int)-1)=(if 0<r then [p-f.wd] else []).foldl (ld f) s:=fun s=>by
  by_cases h:0<r
  ·rw[if_pos h,re (q:=p-f.wd) (decide_eq_true (by omega))]
   ·rfl
   ·rw[show ((r:Int)-1).toNat=r-1 by omega,Int.toNat_natCast,Nat.sub_mul,a];have:f.wd*1<=f.wd*r:=Nat.mul_le_mul_left _ h;omega
  ·rw[if_neg h,oB (decide_eq_false (by omega))];rfl
 have m:∀s,dJ f s c ((r:Int)+1)=(if r<f.ht-1 then [p+f.wd] else []).foldl (ld f) s:=fun s=>by
  by_cases h:r<f.ht-1
  ·rw[if_pos h,re (q:=p+f.wd) (decide_eq_true (by omega))]
   ·rfl
   ·rw[show ((r:Int)+1).toNat=r+1 by omega,Int.toNat_natCast,Nat.add_mul,a];omega
  ·rw[if_neg h,oB (decide_eq_false (by omega))];rfl
 rw[j,k,l,m]
theorem Ah(c a:Nat)(s:ByteArray)(b:Int)(T:Nat->Bool)(x y:Int):xE c a s b T x y=xD (jr c a s b) T x y:=rfl
theorem my{f:Fr}{T:Nat->Bool}{y:Int}(h:xD f T x y=θ):fG f.wd f.ht x y=θ:=by
 unfold xD at h;rw[Bool.and_eq_true]at h;exact h.1
theorem rg(x y:Int)(c a b:Nat)(T:Nat->Bool)(w:ω)(m:a<=16)(l:b<=12)(k:fG a b x y=θ)(j:dC w c a b T):
  χ prog 208 #[κ #[J Z x,J Z y],π (ς ⟨c,0,ν⟩)] w fun e g=>e=ρ (.tuple #[])/\dC g c a b (mark T (y.toNat*a+x.toNat))/\w.grownBy g (ς c):=by
 obtain⟨h,p,i,q⟩:=of_decide_eq_true k;obtain⟨n,d⟩:=Int.eq_ofNat_of_zero_le h;obtain⟨o,f⟩:=Int.eq_ofNat_of_zero_le i;subst d f;exact Dq n o c a b T w m l (by omega) (by omega) j
def Kh(wd q:Nat):List μ:=[J Z ((q % wd:Nat):Int),J Z ((q / wd:Nat):Int)]
def oL(wd:Nat)(l:List Nat):List μ:=l.flatMap (Kh wd)
theorem Ki(c:Nat)(a b:List Nat):oL c (a ++ b)=oL c a ++ oL c b:=by unfold oL;rw[List.flatMap_append]
theorem FP(a:Nat)(l:List Nat):∀k,k<l.length->(oL a l)[k*2]? = ς (J Z ((l.getD k 0 % a:Nat):Int))/\(oL a l)[k*2+1]? = ς (J Z ((l.getD k 0 / a:Nat):Int)):=by
 induction l with
 | nil=>intro k b;simp at b
 | cons x l ih=>
  intro k b
  match k with
  | 0=>exact⟨rfl,rfl⟩
  | k+1=>
   have h:=ih k (by simpa using b)
   have e:∀r,(oL a (x :: l))[(k+1)*2+r]? = (oL a l)[k*2+r]?:=fun r=>by
    rw[show (k+1)*2+r=(k*2+r)+2 by omega];rfl
   exact⟨by have:=e 0;simp only[Nat.add_zero]at this;rw[this];exact h.1,by rw[e 1];exact h.2⟩
theorem wm{a ht:Nat}{y:Int}(h:fG a ht x y=θ):Kh a (y.toNat*a+x.toNat)=[J Z x,J Z y]:=by
 obtain⟨e,j,f,k⟩:=of_decide_eq_true h;obtain⟨g,b⟩:=Int.eq_ofNat_of_zero_le e;obtain⟨i,c⟩:=Int.eq_ofNat_of_zero_le f;subst b c;have d:g<a:=by omega
 unfold Kh;rw[Int.toNat_natCast,Int.toNat_natCast,Nat.mul_comm i a,Nat.mul_add_mod,Nat.mod_eq_of_lt d,Nat.mul_add_div (by omega),Nat.div_eq_of_lt d,Nat.add_zero]
end
end Go.Proofs.YtnnhjegapofopaaGreatDoor
