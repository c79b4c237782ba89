import Derived.WalkMore
import Derived.Maps.OwnSet
import Derived.Maps.Views
import Derived.Test.YtnnhjegapofopaaGreatDoorM4
namespace Go.Proofs.YtnnhjegapofopaaGreatDoor
set_option linter.all false
set_option maxRecDepth 100000
set_option maxHeartbeats 8000000
open Go.RowKit Go.Sort Go.Proofs.Tryz
open Go.Value renaming int -> J,slice -> σ,agg -> κ,pointer -> π,bool -> β
open Go.Obj renaming cells -> ξ
open Go.Ending renaming returned -> ρ
open Go renaming World -> ω,Value -> μ,Calls -> χ,Addr -> η,cell_regrown -> ϊ,bodyPost_ret -> ϋ,below_regrown -> ό
open Go.RowKit renaming Below -> δ,intOf -> ύ
open Option renaming none -> ν,some -> ς
open Bool renaming true -> θ,false -> φ
open Option.some renaming inj -> ώ
open Nat renaming le_refl -> Ϗ,le_trans -> ϐ,lt_of_lt_of_le -> ϑ,zero_le -> ϒ
open List renaming getD_eq_getElem?_getD -> ϓ,getElem?_eq_getElem -> ϔ,length_append -> ϕ,getElem?_append_left -> ϖ,getElem?_append_right -> ϗ
open Go.RowKit.Below renaming refl -> Ϙ
open Go.IntKind renaming i64 -> Z
section
variable {a:η} {c:Nat} {v:μ} {w w':ω}
theorem rf{P:Program}{ops:Array Oper}{o:Oper}{a:Act}{K:Act->ω->Prop}{Q:Exit->Act->ω->Prop}{E:Prop}(C:o.guard=ν)(s x:Operand)(t:TypeId)
  (O:o.op=.call { callee:=.builtin .append,args:=#[s,x],argTypes:=#[t,t] })
  (base:Nat) (e:TypeId) (i:TypeInfo) (z:μ) (size d:Nat) (S:P.underlying t=ς (.slice e)) (M:P.info? e=ς i) (V:i.zero=ς z)
  (l:i.size=size) (B:i.bytes=d) (F:z.cells.size=size) (D:0<size)
  (v:μ) (n:Nat) (G:List μ) (R:a.eval s=v) (p:w.ownsRow base e size v n G)
  (y:η) (m c:Nat) (b:List μ) (U:a.eval x=σ (ς y) m c) (N:b.length=m*size) (k:∀j u,b[j]? = ς u->w.cell? (y.add j)=ς u) (H:∀u∈b,u.oneCell'=θ)
  (A:n+m<=maxLen) (f:(n+m)*d<=140737488355328) (g:base<=w.1.size)
  (h:∀r q,q.ownsRow base e size r (n+m) (G ++ b)->w.grownBy q v.ownBlock->K (a.put o.dst r) q):if Region.wanted o (yielded ops a.tmps)=θ then Oper.wp P o a w K Q else E:=by
 have T:Region.wanted o (yielded ops a.tmps)=θ:=by simp[Region.wanted,C]
 rw[if_pos T];exact wp_append_own w s x t O base e i z size d S M V l B F D v n G R p y m c b U N k H A f g fun r q I L _=>h r q I L
theorem ge(h:w.cell? a=ς v)(b:δ w.1.size w w'):w'.cell? a=ς v:=(b.cell (World.block_lt_of_cell? w a h)).trans h
theorem dN{b:Option Nat}(h:w.cell? a=ς v)(d:w.grownBy w' b)(c:ς a.block≠b):w'.cell? a=ς v:=(World.cell?_of_block (d.block a.block (World.block_lt_of_cell? w a h) c)).trans h
theorem vE:(prog.info? 281).map (fun i=>(i.zero,i.size,i.bytes))=ς (ς (κ #[J Z 0,J Z 0,J Z 0,J Z 0,J Z 0,J Z 0,J Z 0]),7,56):=by kernel_rfl
def eb(S:List Sg):List μ:=S.flatMap sgL
theorem uX(A B:List Sg):eb (A ++ B)=eb A ++ eb B:=by unfold eb;rw[List.flatMap_append]
theorem sG{S:List Sg}(h:v∈eb S):v.oneCell'=θ:=by
 unfold eb at h;rw[List.mem_flatMap]at h;obtain⟨p,_,a⟩:=h;simp[sgL]at a;rcases a with rfl | rfl | rfl | rfl | rfl | rfl | rfl<;>rfl
theorem GK:∀(S:List Sg) (k:Nat) (b:Sg),S[k]? = ς b->∀j u,(sgL b)[j]? = ς u->(eb S)[k*7+j]? = ς u:=by
 intro S
 induction S with
 | nil=>intro k b h;simp at h
 | cons x S ih=>
  intro k b h j u a;have e:eb (x :: S)=sgL x ++ eb S:=by unfold eb;simp
  have c:j<7:=(List.getElem?_eq_some_iff.1 a).1;rw[e];cases k with
  | zero=>
   simp at h;subst h;rw[ϖ (by show _<7;omega)];simpa using a
  | succ k=>
   rw[ϗ (by show 7<=_;omega)];rw[show (k+1)*7+j-(sgL x).length=k*7+j by show _-7=_;omega];exact ih k b (by simpa using h) j u a
theorem pH{B:Nat}{a:Option η}{A:List Sg}(h:w.ownsRow B 281 7 (σ a A.length c) A.length (eb A)):gH w a A A.length:=by
 rcases h.2 with ⟨v,o⟩ | ⟨g,n,f,t,x,l,s,p,q,d⟩
 ·exact .inl o
 ·injection t with e1 e2 e3;refine .inr ⟨g,0,e1,(Array.getElem?_eq_some_iff.1 l).1,fun k r=>?_⟩;have i:A[k]? = ς (sgA A k):=by unfold sgA;rw[ϓ,ϔ r];rfl
  have b:∀j u,(sgL (sgA A k))[j]? = ς u->w.cell? ⟨g,0+k*7+j,ν⟩=ς u:=by
   intro j u m;have y:j<7:=(List.getElem?_eq_some_iff.1 m).1;have e:=GK A k _ i j u m;rw[cell_of_row w g _ f _ _ l];rw[<-d,List.getElem?_take,if_pos (by omega)]at e;rw[Nat.zero_add];simpa using e
  exact⟨b 0 _ rfl,b 1 _ rfl,b 2 _ rfl,b 3 _ rfl,b 4 _ rfl,b 5 _ rfl,b 6 _ rfl⟩
theorem FO{B:Nat}{a:Option η}{n m:Nat}{t:TypeId}{o:List μ}(h:w.ownsRow B t m (σ a n c) n o)(s:0<m):n<=c:=by
 rcases h.2 with ⟨f,p⟩ | ⟨g,d,e,l,q,r,k,i,j,b⟩
 ·injection f with _ e2 e3;omega
 ·injection l with e1 e2 e3;omega
theorem qU(L:List St)(S:List D3)(c:List Int)(n:Nat)(ar br ir:Option η)(cr dr er:Nat)(p:η)(w:ω)(hk:bE L=θ)(hn:L.length<=1048576)(H:L.length<=cr)(au:cr<=9223372036854775807)(hm:S.length<=6)(hl:n=S.length)(hS:aO w ar L L.length)(hD:bu w br S S.length)(hI:jx w ir c n)(hE:bQ p w):
  χ prog 202 #[σ ar L.length cr,σ br S.length dr,σ ir n er] w fun e r=>(∃v,e=ρ v/\r.ownsRow w.1.size 281 7 v (ay L S c n).length (eb (ay L S c n)))/\δ w.1.size w r:=by
 obtain⟨i0,az,aK,aL,aM⟩:=info_parts vE;have aS:1000<=maxLen:=by decide +kernel
 have cA:=yz (fun (W:ω) (f:Int) hW hE=>EQ L f ar cr p W hn H au hW hE);have aA:Hid (∀f,Di L f=atV L L.length f):=yz (fun f=>by unfold Di;rw[if_pos hk]);have HS:=yz hS;have HD:=yz hD;have HE:=yz hE;have HN:=yz (ix L S c);have aD:=yz (kz L S c);have aG:Hid (∀i,dz L S c i=(vA S i,(c.getD i 0,atV L L.length (c.getD i 0)))):=yz (fun i=>rfl);clear hS hD hE hk H au;generalize aT:S.length=m at *;subst hl;generalize L.length=ln at *;rcases hI with rfl | ⟨ib,io,rfl,aI,av⟩
 ·go_enter func202,ntmps202;go_wp2;refine wp_loop_rounds 1 ?_;rw[rounds_succ];go_wp2;go_ret;exact⟨⟨_,rfl,World.ownsRow_nil _ _ _ _⟩,Ϙ _ _⟩
 have aC:=yz av;clear av;go_enter func202,ntmps202;go_wp2;go_loopw [7,13] (fun v kk wr=>∃i:Nat,i<=n/\kk=J Z i/\Hid (wr.ownsRow w.1.size 281 7 v (ay L S c i).length (eb (ay L S c i)))/\Hid (δ w.1.size w wr)) (fun _ kk _=>n-(ύ kk).toNat)
 case atStart=>exact⟨0,by omega,rfl,yz (World.ownsRow_nil _ _ _ _),yz (Ϙ _ _)⟩
 case round=>
  obtain⟨i,hi,rfl,HO,M⟩:=hrel;by_cases aw:i<n
  ·have aQ:(i:Int)<(n:Int):=by omega
   have ci:wr.cell? ⟨ib,io+i,ν⟩=ς (J Z (c.getD i 0)):=by rw[(yx M).cell (p:=⟨ib,io+i,ν⟩) aI];exact yx aC i aw
   have k:=yz (yx HN i);have ag:=yz (yx aG i);have aR:=yx aD i;generalize c.getD i 0=f at *;by_cases ac:f=0
   ·subst ac;rw[if_neg (by simp),List.append_nil]at k;have aE:Hid (wr.ownsRow w.1.size 281 7 u7 (ay L S c (i+1)).length (eb (ay L S c (i+1)))):=yz (by rw[yx k];exact yx HO);go_wp2;go_roundw
    case rel=>exact⟨i+1,by omega,by go_num,aE,M⟩
    case measure=>simp[ύ]<;>omega
   ·have aP:(f==0)=φ:=by simp[ac]
    rw[if_pos ac]at k;rw[yx ag]at k;clear ag;have U:=yz (fun (W:ω) hW hE=>yx cA W f hW hE);rw[yx aA f]at U;generalize atV L ln f=q at *;obtain⟨q1,q2,q3⟩:=q;go_wp2_with fail;refine(yx U _ ((yx HS).kept (yx M)) ((yx HE).kept (yx M))).mono ?_;rintro e W1 ⟨rfl,hx⟩;unfold Fj;simp only;have P:=kT (yx HO) hx;have ad:=ak (yx M) hx;clear hx HO M U;have HU:Hid (∀z,u7.ownBlock=ς z->w.1.size<=z/\z<W1.1.size):=yz (fun z e=>P.lt z e);have a:=an W1 (ξ #[J Z f,J Z q1,J Z q2,J Z q3] 130);have ae:=yz (kT P a);have N:=yz (ak ad a);have N2:=yz (ji W1 (f,q1,q2,q3) 130);clear a P ad ci;go_wp2_with fail;generalize W1.alloc (ξ #[J Z f,J Z q1,J Z q2,J Z q3] 130)=g at ae N N2 ⊢;generalize W1.1.size=A at *;rcases yx HD with h | ⟨bb,bo,rfl,y,aq⟩
    ·omega
    have aJ:=(aq i aw).kept y (yx N);clear aq;generalize vA S i=sv at *;obtain⟨v1,v2,v3⟩:=sv;obtain⟨B,C,D⟩:=aJ;obtain⟨E,F,d2,d3⟩:=yx N2;simp only[Nat.zero_add]at E F d2 d3;simp only at B C D;refine wp_region_held_drew (S:=(fun r=>(r.cell? ⟨bb,bo+i*3,ν⟩=ς (J Z v1)/\r.cell? ⟨bb,bo+i*3+1,ν⟩=ς (J Z v2)/\r.cell? ⟨bb,bo+i*3+2,ν⟩=ς (J Z v3))/\r.cell? ⟨A,0,ν⟩=ς (J Z f)/\r.cell? ⟨A,1,ν⟩=ς (J Z q1)/\r.cell? ⟨A,2,ν⟩=ς (J Z q2)/\r.cell? ⟨A,3,ν⟩=ς (J Z q3))) (by kernel_rfl) ?_ (fun ab=>?_)
    ·exact⟨⟨B,C,D⟩,E,F,d2,d3⟩
    refine tkO 0 rfl ?_;refine tkO 1 rfl ?_;refine tkO 2 rfl ?_;refine tkO 3 rfl ?_;refine tkO 4 rfl ?_;refine tkO 5 rfl ?_;refine tkO 6 rfl ?_;have af:g.drew.ownsRow w.1.size 281 7 u7 (ay L S c i).length (eb (ay L S c i)):=yx ae;have O:=(yx N).drew;have aH:w.1.size<=g.drew.1.size:=O.size;have aN:w.1.size<=g.1.size:=aH;have ah:g.drew.cell? ⟨bb,bo+i*3,ν⟩=ς (J Z v1):=B;have ai:g.drew.cell? ⟨bb,bo+i*3+1,ν⟩=ς (J Z v2):=C;have aj:g.drew.cell? ⟨bb,bo+i*3+2,ν⟩=ς (J Z v3):=D;have al:g.drew.cell? ⟨A,0,ν⟩=ς (J Z f):=E;have am:g.drew.cell? ⟨A,1,ν⟩=ς (J Z q1):=F;have ao:g.drew.cell? ⟨A,2,ν⟩=ς (J Z q2):=d2;have ap:g.drew.cell? ⟨A,3,ν⟩=ς (J Z q3):=d3;clear B C D E F d2 d3;refine rd1 7 rfl fun K G=>?_;go_simp;have o:=an g.drew (ξ #[J Z v1,J Z v2,J Z v3,J Z f,J Z q1,J Z q2,J Z q3] 281);have I:=kT af o;have B5:=ak O o;have B:=ge ah o;have C:=ge ai o;have D:=ge aj o;have E:=ge al o;have F:=ge am o;have d2:=ge ao o;have d3:=ge ap o;clear o ah ai aj al am ao ap af O;refine G.out _ _ (⟨⟨B,C,D⟩,E,F,d2,d3⟩) fun s=>?_;clear G K ab;refine rd1 8 rfl fun K G=>?_;refine rf rfl _ _ 261 rfl w.1.size 281 i0 (κ #[J Z 0,J Z 0,J Z 0,J Z 0,J Z 0,J Z 0,J Z 0]) 7 56 underlying261 az aK aL aM rfl (by decide) _ _ _ rfl I ⟨g.drew.1.size,0,ν⟩ 1 1 (eb [((v1,v2,v3),(f,q1,q2,q3))]) rfl rfl ?d2 (fun u hu=>sG hu) ?d3 ?d4 ?d5 ?_
    case d2=>first | exact fun j u h=>h | exact lI _ _ _
    case d3=>omega
    case d4=>omega
    case d5=>first | omega | (simp;omega)
    intro v7 V7 l b;have d:∀z,z<w.1.size\/A<=z->ς z≠u7.ownBlock:=fun z hz e=>by have:=yx HU z e.symm;omega
    have aB:Hid (δ w.1.size w V7):=yz (B5.trans ⟨b.os,b.tape,b.output,b.size,fun z hz=>b.block z (by simp;omega) (d z (.inl hz))⟩);have Q:=dN B b (d _ (.inl y));have R:=dN C b (d _ (.inl y));have T:=dN D b (d _ (.inl y));have V:=dN E b (d _ (.inr (Ϗ _)));have X:=dN F b (d _ (.inr (Ϗ _)));have Y:=dN d2 b (d _ (.inr (Ϗ _)));have aa:=dN d3 b (d _ (.inr (Ϗ _)));have aF:Hid (V7.ownsRow w.1.size 281 7 v7 (ay L S c (i+1)).length (eb (ay L S c (i+1)))):=yz (by rw[yx k,uX,ϕ];exact l);clear l b I B5 B C D E F d2 d3 d;refine G.out _ _ (⟨⟨Q,R,T⟩,V,X,Y,aa⟩) fun t=>?_;clear G K s;refine rd1 9 rfl fun K G=>?_;go_simp;refine G.out _ _ (⟨⟨Q,R,T⟩,V,X,Y,aa⟩) fun x=>?_;clear G K t;refine rdn ?_;clear Q R T V X Y aa x;go_wp2;go_roundw
    case rel=>exact⟨i+1,by omega,by go_num,aF,aB⟩
    case measure=>simp[ύ]<;>omega
  ·have ax:i=n:=by omega
   subst ax;go_wp2;go_ret;exact⟨⟨_,rfl,yx HO⟩,yx M⟩
end
section
variable {ids:List Int}
theorem Hm{L:List St}{S:List D3}(h:bE L=φ):cJ L S ids=φ:=by unfold cJ;rw[h];rfl
theorem Hn{L:List St}{S:List D3}(h:aQ S=φ):cJ L S ids=φ:=by unfold cJ;rw[h,Bool.and_false];rfl
theorem Ho{L:List St}{S:List D3}(h:ids.length≠S.length):cJ L S ids=φ:=by unfold cJ;rw[decide_eq_false h,Bool.and_false];rfl
theorem Hp{L:List St}{S:List D3}(a:bE L=θ)(b:aQ S=θ)(c:ids.length=S.length):cJ L S ids=fZ (ay L S ids ids.length) (ay L S ids ids.length).length:=by unfold cJ;rw[a,b,decide_eq_true c];rfl
theorem DI{A:List Sg}{n:Nat}(h:∀i,i<n->(!kF (sgA A i).2.2&&fL A (sgA A i) i)=θ):fZ A n=θ:=by
 unfold fZ;rw[List.all_eq_true];exact fun i a=>h i (List.mem_range.1 a)
theorem xX{A:List Sg}{n i:Nat}(a:i<n)(h:(!kF (sgA A i).2.2&&fL A (sgA A i) i)=φ):fZ A n=φ:=by
 unfold fZ;rw[List.all_eq_false];exact⟨i,List.mem_range.2 a,by rw[h];simp⟩
theorem we{w:ω}{B:Nat}{a:Option η}{c n m:Nat}{t:TypeId}{o:List μ}(h:w.ownsRow B t m (σ a n c) n o):c<=maxLen:=by
 rcases h.2 with ⟨f,p⟩ | ⟨g,d,e,l,q,r,k,i,j,b⟩
 ·injection f with _ e2 e3;omega
 ·injection l with e1 e2 e3;omega
theorem xq(L:List St)(S:List D3)(c:List Int)(F G ir:Option η)(H I er:Nat)(p:η)(w:ω)(hn:L.length<=1048576)(x:L.length<=H)(af:H<=9223372036854775807)(aw:S.length<=1048576)(C:S.length<=I)(aq:I<=9223372036854775807)(aG:c.length<=1048576)(hS:aO w F L L.length)(hD:bu w G S S.length)(hI:jx w ir c c.length)(hE:bQ p w):
  χ prog 201 #[σ F L.length H,σ G S.length I,σ ir c.length er] w fun e y=>e=ρ (β (cJ L S c))/\δ w.1.size w y:=by
 have cK:=yz (fun (W:ω) hW hE=>iT L F H p W hn x af hW hE);have cP:=yz (fun (W:ω) hW=>gx S G I W aw C aq hW);have cO:Hid (bE L=θ->S.length<=6->c.length=S.length->∀W:ω,aO W F L L.length->bu W G S S.length->jx W ir c c.length->bQ p W->χ prog 202 #[σ F L.length H,σ G S.length I,σ ir c.length er] W fun e y=>(∃v,e=ρ v/\y.ownsRow W.1.size 281 7 v (ay L S c c.length).length (eb (ay L S c c.length)))/\δ W.1.size W y):=yz (fun K hm M W h1 h2 h3 h4=>qU L S c c.length F G ir H I er p W K hn x af hm M h1 h2 h3 h4);have H1:Hid (bE L=φ->cJ L S c=φ):=yz Hm;have H2:Hid (aQ S=φ->cJ L S c=φ):=yz Hn;have H3:Hid (c.length≠S.length->cJ L S c=φ):=yz Ho;have H4:Hid (bE L=θ->aQ S=θ->c.length=S.length->cJ L S c=fZ (ay L S c c.length) (ay L S c c.length).length):=yz Hp;have H6:Hid (aQ S=θ->S.length<=6):=yz (fun h=>(bN h).1);have aC:=kz L S c c.length;have HS:=yz hS;have HD:=yz hD;have HI:=yz hI;have HE:=yz hE;clear hS hD hI hE;generalize cJ L S c=R at *;generalize ay L S c c.length=A at *;generalize S.length=m at *;generalize c.length=k at *;generalize L.length=n at *;go_enter func201,ntmps201;go_wp2_with fail;refine(yx cK _ (yx HS) (yx HE)).mono ?_;rintro e W1 ⟨rfl,f⟩;have B1:=yz f;clear f;cases K:bE L
 ·obtain rfl:=yx H1 K;go_wp2;go_ret;exact⟨rfl,yx B1⟩
 go_wp2_with fail;refine(yx cP _ ((yx HD).kept (yx B1))).mono ?_;rintro e W2 ⟨rfl,f⟩;have u:=aB B1 f;clear f B1;cases hp:aQ S
 ·obtain rfl:=yx H2 hp;go_wp2;go_ret;exact⟨rfl,yx u⟩
 by_cases D:k≠m
 ·obtain rfl:=yx H3 D;have aE:¬(k:Int)=(m:Int):=by omega
  have aF:((k:Int)==(m:Int))=φ:=by simp;omega
  go_wp2;go_ret;exact⟨rfl,yx u⟩
 have M:k=m:=Decidable.not_not.1 D;clear D;have HR:=yz (yx H4 K hp M);have av:=yx H6 hp;have ad:=yz (yx cO K av M);subst M;clear K hp H1 H2 H3 H4 H6 cK cP cO;go_wp2_with fail;refine(yx ad _ ((yx HS).kept (yx u)) ((yx HD).kept (yx u)) ((yx HI).kept (yx u)) ((yx HE).kept (yx u))).mono ?_;rintro e W3 ⟨⟨v3,rfl,ho⟩,f⟩;obtain⟨a3,Y,rfl⟩:=JM ho;have ao:=FO ho (by omega);have Q:=yz (pH ho);have z:=aB u f;have ae:Y<=9223372036854775807:=ϐ (we ho) (by decide +kernel);clear ho f u ad;generalize am:A.length=E at *;clear am;have cF:Hid (∀(s:Sg) (i:Nat) (a:Option η) (W:ω),i<=E->gH W a A i->χ prog 215 #[sgV s,σ a i Y] W fun e y=>e=ρ (β (fL A s i))/\δ W.1.size W y):=yz (fun s i a W hi hs=>nu A i s a Y W (by omega) (by omega) ae hs);go_wp2_with fail;rcases yx Q with h0 | ⟨sb,so,rfl,ax,ah⟩
 ·subst h0;have HY:Hid (R=θ):=yz (by rw[yx HR];rfl);refine wp_loop_rounds 1 ?_;rw[rounds_succ];go_wp2;go_ret;exact⟨by rw[yx HY];rfl,yx z⟩
 have aj:=yz ah;clear ah;have aA:sb<W3.1.size:=ax;go_loopw [31] (fun kk wr=>∃i:Nat,i<=E/\kk=J Z i/\Hid (∀j,j<i->(!kF (sgA A j).2.2&&fL A (sgA A j) j)=θ)/\Hid (δ W3.1.size W3 wr)) (fun kk _=>E-(ύ kk).toNat)
 case atStart=>exact⟨0,by omega,rfl,yz (fun j hj=>absurd hj (Nat.not_lt_zero _)),yz (Ϙ _ _)⟩
 case round=>
  obtain⟨i,hi,rfl,HF,N⟩:=hrel;by_cases o:i<E
  ·have az:(i:Int)<(E:Int):=by omega
   obtain⟨t,ht⟩:∃t,sgA A i=t:=⟨_,rfl⟩
   have ai:=((yx aj) i o).kept (yx N);rw[ht]at ai;have HT:=yz ht;clear ht;have T:Hid (gH wr (ς ⟨sb,so,ν⟩) A i):=yz ((((yx Q).less (Nat.le_of_lt o))).kept (yx N));have ab:=yz (fun W h=>yx cF t i (ς ⟨sb,so,ν⟩) W (Nat.le_of_lt o) h);have P:Hid ((!kF (sgA A i).2.2&&fL A (sgA A i) i)=(!kF t.2.2&&fL A t i)):=yz (by rw[yx HT]);have b:=an wr (ξ #[J Z t.1.1,J Z t.1.2.1,J Z t.1.2.2,J Z t.2.1,J Z t.2.2.1,J Z t.2.2.2.1,J Z t.2.2.2.2] 281);have T1:=iS wr t 281;have g:=aB N b;have r:=ap T b;clear b N T;generalize au:fL A t i=fv at *;clear au;obtain⟨⟨b1,b2,b3⟩,b4,U,V,X⟩:=t;have ac:Hid (∀(W:ω),gH W (ς ⟨sb,so,ν⟩) A i->χ prog 215 #[κ #[J Z b1,J Z b2,J Z b3,J Z b4,J Z U,J Z V,J Z X],σ (ς ⟨sb,so,ν⟩) i Y] W fun e y=>e=ρ (β fv)/\δ W.1.size W y):=ab;clear ab;have d:Hid ((!kF (sgA A i).2.2&&fL A (sgA A i) i)=(!eqB U V X 0 0 0&&fv)):=P;clear P;have he:=fun W=>zM U V X 0 0 0 W;obtain⟨c0,c1,c2,aa,c4,c5,c6⟩:=ai;simp only at c0 c1 c2 aa c4 c5 c6 T1 g r;go_wp2_with fail;clear c0 c1 c2 aa c4 c5 c6;generalize wr.alloc (ξ #[J Z b1,J Z b2,J Z b3,J Z b4,J Z U,J Z V,J Z X] 281)=W4 at T1 g r ⊢;generalize wr.1.size=tb at *;obtain⟨x0,x1,x2,x3,x4,x5,x6⟩:=T1;simp only[Nat.zero_add]at x0 x1 x2 x3 x4 x5 x6;have r0:=ϊ x0;have r1:=ϊ x1;have r2:=ϊ x2;have r3:=ϊ x3;have r4:=ϊ x4;have r5:=ϊ x5;have r6:=ϊ x6;clear x0 x1 x2 x3 x4 x5 x6;have aD:(i:Int)<=(Y:Int):=by omega
   cases hz:eqB U V X 0 0 0
   ·rw[hz]at he d;rw[Bool.not_false,Bool.true_and]at d;refine de ?_;repeat (go_big_quiet_step (first | (with_reducible exact Calls.regrown_of (yx ac _ ((yx r).kept (ό _ _ _))))))
    refine di fun dq q=>?_;have f:=ak (yx g) (ό W4 dq q);generalize grow (redrawn W4 dq) q=W5 at f ⊢;have O:=yz f;clear f r0 r1 r2 r3 r4 r5 r6 he ac r g;cases fv
    ·have B:Hid (R=φ):=yz (by rw[yx HR];exact xX o (yx d));go_wp2;go_ret;exact⟨by rw[yx B];rfl,(yx z).trans ((yx O).mono (yx z).size)⟩
    ·go_wp2;go_roundw
     case rel=>exact⟨i+1,by omega,by go_num,yz (fun l M=>by
      by_cases e:l=i
      ·rw[e];exact yx d
      ·exact yx HF l (by omega)),O⟩
     case measure=>simp[ύ]<;>omega
   ·rw[hz]at he d;have B:Hid (R=φ):=yz (by rw[yx HR];exact xX o (yx d));refine de ?_;repeat (go_big_quiet_step (fail))
    refine di fun dq q=>?_;have f:=ak (yx g) (ό W4 dq q);generalize grow (redrawn W4 dq) q=W5 at f ⊢;go_wp2;go_ret;exact⟨by rw[yx B];rfl,(yx z).trans (f.mono (yx z).size)⟩
  ·have ag:i=E:=by omega
   subst ag;have HY:Hid (R=θ):=yz (by rw[yx HR];exact DI (yx HF));go_wp2;go_ret;exact⟨by rw[yx HY];rfl,(yx z).trans ((yx N).mono (yx z).size)⟩
end
section
def jf(xs:List Int):List μ:=xs.map (fun z=>J Z z)
variable {v:μ}
theorem yE{S:List Int}(h:v∈jf S):v.oneCell'=θ:=by
 unfold jf at h;rw[List.mem_map]at h;obtain⟨p,_,rfl⟩:=h;rfl
theorem lK(w:ω)(B:Nat)(h:B<=w.1.size):(w.alloc (ξ #[] 2)).ownsRow B 2 1 (σ (ς ⟨w.1.size,0,ν⟩) 0 0) 0 (jf []):=
 ⟨rfl,.inr ⟨_,0,#[],rfl,h,Array.getElem?_push_size,Ϗ _,ϒ _,rfl,rfl⟩⟩
theorem JL{w:ω}{B B' n m:Nat}{t:TypeId}{d:List μ}(h:w.ownsRow B t m v n d)(i:B'<=B):w.ownsRow B' t m v n d:=by
 obtain⟨f,c⟩:=h;refine⟨f,?_⟩;rcases c with c | ⟨g,a,b,e,j,r⟩
 ·exact .inl c
 ·exact .inr ⟨g,a,b,e,by omega,r⟩
def gj(L:List St)(a b c d:Int)(v:D3):Nat->Nat
 | 0=>0
 | k+1=>gj L a b c d v k+if dl v (apD a b c d (stA L k).2)=θ then 1 else 0
def ic(L:List St)(a b c d:Int)(S:List D3)(n:Nat):Nat->Nat
 | 0=>0
 | i+1=>ic L a b c d S n i+gj L a b c d (vA S i) n
theorem om(L:List St)(a b c d:Int)(v:D3):∀k,gj L a b c d v k<=k
 | 0=>Ϗ _
 | k+1=>by unfold gj;have:=om L a b c d v k;split<;>omega
theorem ys(L:List St)(a b c d:Int)(S:List D3)(n:Nat):∀i,ic L a b c d S n i<=i*n
 | 0=>ϒ _
 | i+1=>by unfold ic;have:=ys L a b c d S n i;have:=om L a b c d (vA S i) n;rw[Nat.succ_mul];omega
def oK(L:List St)(a b c d:Int)(S:List D3):List Int:=S.map (fun v=>gn L a b c d v L.length)
theorem Jk(L:List St)(a b c d:Int)(S:List D3)(i:Nat)(f:i<S.length):oK L a b c d (S.take (i+1))=oK L a b c d (S.take i) ++ [gn L a b c d (vA S i) L.length]:=by
 have e:S.take (i+1)=S.take i ++ [vA S i]:=by
  rw[List.take_succ_eq_append_getElem f];congr 2
  unfold vA;rw[ϓ,ϔ f];rfl
 unfold oK;rw[e,List.map_append];rfl
theorem kq(p q:D3)(w:ω)(c:aS 1000000 p.1 p.2.1 p.2.2=θ)(d:aS 1000000 q.1 q.2.1 q.2.2=θ):
  χ prog 109 #[κ #[J Z p.1,J Z p.2.1,J Z p.2.2],κ #[J Z q.1,J Z q.2.1,J Z q.2.2]] w fun e a=>e=ρ (β (dl q p))/\δ w.1.size w a:=by
 refine(nD _ _ _ _ _ _ w).mono fun e a h=>?_;have b:=CR c d;rw[EK];unfold dl;rw[<-b];exact h
theorem nE(a b c d:Int)(v:D3)(w:ω)(f:aG a b c d=θ)(g:aX v.1 v.2.1 v.2.2=θ):
  χ prog 151 #[κ #[J Z a,J Z b,J Z c,J Z d],κ #[J Z v.1,J Z v.2.1,J Z v.2.2]] w fun e h=>e=ρ (κ #[J Z (apD a b c d v).1,J Z (apD a b c d v).2.1,J Z (apD a b c d v).2.2])/\δ w.1.size w h:=
 qx a b c d v.1 v.2.1 v.2.2 w (dt.1 f).1 (ux (td g))
theorem rp{x y z:Int}(h:dA x y z=θ):aS 1000000 x y z=θ:=by
 have a:=(bZ.1 (gW h).1).1;rw[bH];exact a
theorem Ag(L:List St)(S:List D3)(ar br:Option η)(cr dr:Nat)(a b c d:Int)(w:ω)(hk:bE L=θ)(hr:aG a b c d=θ)(hp:aQ S=θ)(hS:aO w ar L L.length)(hD:bu w br S S.length):
  χ prog 154 #[σ ar L.length cr,κ #[J Z a,J Z b,J Z c,J Z d],σ br S.length dr] w fun e w'=>(∃v,e=ρ (.tuple #[v,J Z (ic L a b c d S L.length S.length:Int)])/\w'.ownsRow w.1.size 2 1 v (oK L a b c d S).length (jf (oK L a b c d S)))/\δ w.1.size w w':=by
 obtain⟨i0,ae,aF,aI,aJ⟩:=info_parts nB;have aW:1000<=maxLen:=by decide +kernel
 have au:Hid (∀j,j<L.length->aX (stA L j).2.1 (stA L j).2.2.1 (stA L j).2.2.2=θ):=yz (fun j hj=>kw ((ff hk).2 j hj));have ay:Hid (∀j,j<S.length->lV (vA S j)=θ):=yz (fun j hj=>nK ((bN hp).2 j hj));have ah:=(ff hk).1;have aV:=(bN hp).1;have av:=yz (Jk L a b c d S);have X:=yz hr;have HS:=yz hS;have HD:=yz hD;have al:Hid (oK L a b c d (S.take S.length)=oK L a b c d S):=yz (by rw[List.take_length]);clear hS hD hk hr hp;generalize S.length=m at *;generalize L.length=n at *;have T0:=be w a b c d 24;have B0:=an w (ξ #[J Z a,J Z b,J Z c,J Z d] 24);have e1:(w.alloc (ξ #[J Z a,J Z b,J Z c,J Z d] 24)).1.size=w.1.size+1:=by simp
 have f:=an (w.alloc (ξ #[J Z a,J Z b,J Z c,J Z d] 24)) (ξ #[] 2);have O0:=lK (w.alloc (ξ #[J Z a,J Z b,J Z c,J Z d] 24)) (w.1.size+1) (by omega);rw[e1]at O0;have B:=yz (T0.kept T0.lt f);have x:=yz (ak B0 f);have C:=yz O0;have l:w.1.size+1<=((w.alloc (ξ #[J Z a,J Z b,J Z c,J Z d] 24)).alloc (ξ #[] 2)).1.size:=by simp
 clear T0 B0 f O0 e1;go_enter func154,ntmps154;go_wp2_with fail;generalize (w.alloc (ξ #[J Z a,J Z b,J Z c,J Z d] 24)).alloc (ξ #[] 2)=W0 at B x C l ⊢;go_loopw [8,9,10] (fun v cc R wr=>∃i:Nat,i<=m/\R=J Z i/\cc=J Z (ic L a b c d S n i:Int)/\Hid (wr.ownsRow (w.1.size+1) 2 1 v (oK L a b c d (S.take i)).length (jf (oK L a b c d (S.take i))))/\Hid (aR wr w.1.size a b c d)/\Hid (δ w.1.size w wr)/\w.1.size+1<=wr.1.size) (fun _ _ R _=>m-(ύ R).toNat)
 case atStart=>exact⟨0,by omega,rfl,rfl,C,B,x,l⟩
 case round=>
  clear C B x l;obtain⟨i,hi,rfl,rfl,C,B,x,l⟩:=hrel;by_cases O:i<m
  ·have aL:(i:Int)<(m:Int):=by omega
   have aS:=ys L a b c d S n i;have aK:ic L a b c d S n i<=100:=by have:=Nat.mul_le_mul (show i<=6 by omega) ah;omega
   have aj:=yx ay i O;have V:Hid (ic L a b c d S n (i+1)=ic L a b c d S n i+gj L a b c d (vA S i) n):=yz rfl;have Y:=yz (yx av i (by first | exact O | omega));rcases yx HD with h | ⟨bb,bo,rfl,az,aa⟩
   ·omega
   have D:=aa i O;clear aa;obtain⟨⟨o,p,r⟩,hv⟩:∃v,vA S i=v:=⟨_,rfl⟩
   rw[hv]at D V Y aj;clear hv;have ax:=yz D;clear D;generalize ic L a b c d S n i=ab at *;go_wp2;go_loopw [9,11,12] (fun cc id R wr=>∃k:Nat,k<=n/\R=J Z k/\cc=J Z ((ab+gj L a b c d (o,p,r) k:Nat):Int)/\id=J Z (gn L a b c d (o,p,r) k)/\Hid (wr.ownsRow (w.1.size+1) 2 1 u8 (oK L a b c d (S.take i)).length (jf (oK L a b c d (S.take i))))/\Hid (aR wr w.1.size a b c d)/\Hid (δ w.1.size w wr)/\w.1.size+1<=wr.1.size) (fun _ _ R _=>n-(ύ R).toNat)
   case atStart=>exact⟨0,by omega,rfl,by rfl,rfl,C,B,x,l⟩
   case round=>
    clear C B x l;obtain⟨k,hk,rfl,rfl,rfl,C,B,x,l⟩:=hrel;by_cases af:k<n
    ·have aM:(k:Int)<(n:Int):=by omega
     rcases yx HS with h0 | ⟨sb,so,rfl,aD,ai⟩
     ·omega
     have D:=(ai k af).kept aD (yx x);clear ai;have aE:=(yx ax).kept az (yx x);have G:=yx au k af;have aA:=om L a b c d (o,p,r) k;have I:Hid (gj L a b c d (o,p,r) (k+1)=gj L a b c d (o,p,r) k+if dl (o,p,r) (apD a b c d (stA L k).2)=θ then 1 else 0):=yz rfl;have K:Hid (gn L a b c d (o,p,r) (k+1)=if dl (o,p,r) (apD a b c d (stA L k).2)=θ then (stA L k).1 else gn L a b c d (o,p,r) k):=yz rfl;obtain⟨⟨s1,s2,s3,s4⟩,hs⟩:∃s,stA L k=s:=⟨_,rfl⟩
     rw[hs]at D G K I;clear hs;obtain⟨c0,c1,c2,c3⟩:=D;obtain⟨d0,d1,d2⟩:=aE;obtain⟨e0,e1,e2,e3⟩:=yx B;have A:Hid (gn L a b c d (o,p,r) (k+1)=if dl (o,p,r) (apD a b c d (s2,s3,s4))=θ then s1 else gn L a b c d (o,p,r) k):=K;have y:Hid (gj L a b c d (o,p,r) (k+1)=gj L a b c d (o,p,r) k+if dl (o,p,r) (apD a b c d (s2,s3,s4))=θ then 1 else 0):=I;have cA:=yz (fun W=>nE a b c d (s2,s3,s4) W (yx X) G);have cS:=yz (fun W=>kq (apD a b c d (s2,s3,s4)) (o,p,r) W (uD (yx X) G) (rp aj));clear K I G;generalize apD a b c d (s2,s3,s4)=q at *;obtain⟨q1,q2,q3⟩:=q;generalize dl (o,p,r) (q1,q2,q3)=sm at *;generalize gj L a b c d (o,p,r) k=aT at *;generalize aC:gn L a b c d (o,p,r) k=Q at *;clear aC;simp only at cA cS;have r0:=ϊ c0;have r1:=ϊ c1;have r2:=ϊ c2;have r3:=ϊ c3;have x0:=ϊ d0;have x1:=ϊ d1;have x2:=ϊ d2;have y0:=ϊ e0;have y1:=ϊ e1;have y2:=ϊ e2;have y3:=ϊ e3;have aN:=yz c0;clear c0 c1 c2 c3 d0 d1 d2 e0 e1 e2 e3;go_wp2_with fail;refine de ?_;repeat (go_big_quiet_step (with_reducible first | exact aH cA | exact aH cS))
     refine di fun dq T=>?_;have U:=ό wr dq T;have M:=yz (kT (yx C) U);have N:=yz ((yx B).kept (yx B).lt U);have H:=aB x U;have t:=ϐ l U.size;have c0:=r0 dq T;generalize grow (redrawn wr dq) T=W3 at U M N H t c0 ⊢;clear U cA cS r0 r1 r2 r3 x0 x1 x2 y0 y1 y2 y3 C B x l;cases sm
     ·rw[if_neg (by simp)]at A y;go_wp2;go_roundw
      case rel=>exact⟨k+1,by omega,by go_num,by rw[yx y];rfl,by rw[yx A],M,N,H,t⟩
      case measure=>simp[ύ];omega
     ·rw[if_pos rfl]at A y;go_wp2;go_roundw
      case rel=>exact⟨k+1,by omega,by go_num,by rw[yx y];go_num,by rw[yx A],M,N,H,t⟩
      case measure=>simp[ύ];omega
    ·have ag:k=n:=by omega
     subst ag;have aA:=om L a b c d (o,p,r) k;have ao:Hid ((ab+gj L a b c d (o,p,r) k:Nat)=ic L a b c d S k (i+1)):=yz (yx V).symm;have aU:(oK L a b c d (S.take i)).length<=6:=by unfold oK;rw[List.length_map];have:=List.length_take_le i S;omega
     rw[yx ao];generalize gn L a b c d (o,p,r) k=Q at *;generalize ac:ic L a b c d S k (i+1)=aP at *;have ap:=yz ac;clear ac;have Z1:=an wr (ξ #[J Z Q] 2);have E:=kT (yx C) Z1;have B3:=ak (yx x) Z1;have T3:=(yx B).kept (yx B).lt Z1;clear Z1 C x B;generalize oK L a b c d (S.take i)=Pk at *;go_wp2_with (at_builtin;refine wpList_append_own _ rfl _ _ 128 rfl (w.1.size+1) 2 i0 (J Z 0) 1 8 underlying128 ae aF aI aJ rfl (by decide) _ _ _ rfl E ⟨wr.1.size,0,ν⟩ 1 1 (jf [Q]) rfl rfl ?d2 (fun u hu=>yE hu) ?d3 ?d4 ?d5 ?_)
     case d2=>first | exact fun j u h=>h | exact lI _ _ _
     case d3=>omega
     case d4=>omega
     case d5=>first | omega | (simp;omega)
     intro v7 V7 F g _;have ne:∀z,z<w.1.size+1->ς z≠u8.ownBlock:=fun z hz e=>by have:=(E.lt z e.symm).1;omega
     have am:Hid (δ w.1.size w V7):=yz (B3.trans ⟨g.os,g.tape,g.output,g.size,fun z hz=>g.block z (by simp;omega) (ne z (by omega))⟩);have aw:=yz (T3.same (g.block w.1.size (by simp;omega) (ne _ (by omega))))
     have aq:Hid (V7.ownsRow (w.1.size+1) 2 1 v7 (oK L a b c d (S.take (i+1))).length (jf (oK L a b c d (S.take (i+1))))):=yz (by
      rw[yx Y,ϕ];unfold jf;rw[List.map_append]
      exact F)
     have P:w.1.size+1<=V7.1.size:=by have:=g.size;simp at this;omega
     clear F g E B3 T3 ne;go_wp2;go_roundw
     case rel=>exact⟨i+1,by omega,by go_num,by rw[yx ap],aq,aw,am,P⟩
     case measure=>simp[ύ];omega
  ·have ad:i=m:=by omega
   subst ad;rw[yx al]at C;go_wp2;exact ϋ (v:=.tuple #[u8,J Z (ic L a b c d S n i:Int)]) (by simp[results,results154,go_sem]) rfl ⟨⟨_,rfl,JL (yx C) (by omega)⟩,yx x⟩
end
section
theorem GE{p q r:D3}(a:aD p.1 p.2.1 p.2.2=θ)(b:aD q.1 q.2.1 q.2.2=θ)(c:aD r.1 r.2.1 r.2.2=θ):
  xm p q r=dx (crW p.2.1 p.2.2 q.2.1 q.2.2) (crW p.2.2 p.1 q.2.2 q.1) (crW p.1 p.2.1 q.1 q.2.1) r.1 r.2.1 r.2.2:=by
 unfold xm xo;rw[a,b,c];rfl
theorem yg(p q r:D3)(i:aD p.1 p.2.1 p.2.2=θ)(j:aD q.1 q.2.1 q.2.2=θ)(k:aD r.1 r.2.1 r.2.2=θ):∃(b c f d:Int),
  Hid (∀W:ω,χ prog 139 #[κ #[J Z p.1,J Z p.2.1,J Z p.2.2],κ #[J Z q.1,J Z q.2.1,J Z q.2.2]] W fun e a=>e=ρ (κ #[J Z b,J Z c,J Z f])/\δ W.1.size W a)
  /\ Hid (∀W:ω,χ prog 140 #[κ #[J Z b,J Z c,J Z f],κ #[J Z r.1,J Z r.2.1,J Z r.2.2]] W fun e a=>e=ρ (J Z d)/\δ W.1.size W a)
  /\ Hid (∀W:ω,χ prog 212 #[J Z d] W fun e a=>e=ρ (J Z (jA (xm p q r) 0))/\δ W.1.size W a):=by
 refine⟨_,_,_,_,yz (fun W=>qw _ _ _ _ _ _ W),yz (fun W=>jg _ _ _ _ _ _ W),yz (fun W=>(fA _ W).mono fun e a h=>?_)⟩;obtain⟨g,l⟩:=h;refine⟨?_,by rw[l];exact Ϙ _ _⟩;rw[g,GE i j k];rfl
theorem IS(p q r s:D3)(a:lV p=θ)(b:lV q=θ)(c:aX r.1 r.2.1 r.2.2=θ)(d:aX s.1 s.2.1 s.2.2=θ)(W:ω):
  χ prog 211 #[κ #[J Z p.1,J Z p.2.1,J Z p.2.2],κ #[J Z q.1,J Z q.2.1,J Z q.2.2],κ #[J Z r.1,J Z r.2.1,J Z r.2.2],κ #[J Z s.1,J Z s.2.1,J Z s.2.2]] W fun e f=>e=ρ (J Z (rA p.1 p.2.1 p.2.2 q.1 q.2.1 q.2.2 r.1 r.2.1 r.2.2 s.1 s.2.1 s.2.2))/\δ W.1.size W f:=by
 rw[Ln a b c d];exact Ei _ _ _ _ _ _ _ _ _ _ _ _ W
def kZ(L:List St)(S:List D3)(ids:List Int)(s:Sg)(i:Nat):Bool:=decide (ids.getD i 0=0) || (decide (s.2.1≠ids.getD i 0)&&mV s (dz L S ids i)&&(List.range i).all (fun j=>decide (ids.getD j 0=0) || eX s (dz L S ids j) (dz L S ids i)))
variable {ids:List Int} {i j:Nat}
theorem GI{L:List St}{S:List D3}{s:Sg}{n:Nat}(h:∀i,i<n->kZ L S ids s i=θ):lD L S ids s n=θ:=by
 unfold lD;rw[List.all_eq_true];exact fun i a=>h i (List.mem_range.1 a)
theorem uU{L:List St}{S:List D3}{s:Sg}{n:Nat}(a:i<n)(h:kZ L S ids s i=φ):lD L S ids s n=φ:=by
 unfold lD;rw[List.all_eq_false];exact⟨i,List.mem_range.2 a,by unfold kZ at h;rw[h];simp⟩
theorem ET{L:List St}{S:List D3}{s:Sg}(h:ids.getD i 0=0):kZ L S ids s i=θ:=by unfold kZ;rw[decide_eq_true h,Bool.true_or]
theorem ER{L:List St}{S:List D3}{s:Sg}(h:ids.getD i 0≠0)(a:s.2.1=ids.getD i 0):kZ L S ids s i=φ:=by
 unfold kZ;rw[decide_eq_false h,Bool.false_or,show decide (s.2.1≠ids.getD i 0)=φ from decide_eq_false (fun g=>g a)];rfl
theorem Ij{L:List St}{S:List D3}{s:Sg}(h:ids.getD i 0≠0)(a:mV s (dz L S ids i)=φ):kZ L S ids s i=φ:=by
 unfold kZ;rw[decide_eq_false h,Bool.false_or,a,Bool.and_false];rfl
theorem ES{L:List St}{S:List D3}{s:Sg}(h:ids.getD i 0≠0)(c:j<i)(a:ids.getD j 0≠0)(b:eX s (dz L S ids j) (dz L S ids i)=φ):kZ L S ids s i=φ:=by
 unfold kZ
 have:((List.range i).all fun j=>decide (ids.getD j 0=0) || eX s (dz L S ids j) (dz L S ids i))=φ:=by
  rw[List.all_eq_false];exact⟨j,List.mem_range.2 c,by rw[decide_eq_false a,b];simp⟩
 rw[decide_eq_false h,Bool.false_or,this,Bool.and_false]
theorem Il{L:List St}{S:List D3}{s:Sg}(a:s.2.1≠ids.getD i 0)(b:mV s (dz L S ids i)=θ)(c:∀j,j<i->(decide (ids.getD j 0=0) || eX s (dz L S ids j) (dz L S ids i))=θ):kZ L S ids s i=θ:=by
 unfold kZ;rw[decide_eq_true a,b,show ((List.range i).all fun j=>decide (ids.getD j 0=0) || eX s (dz L S ids j) (dz L S ids i))=θ from List.all_eq_true.2 (fun j d=>c j (List.mem_range.1 d))];simp
def uq(L:List St)(S:List D3)(ids:List Int)(s:Sg)(i j:Nat):Prop:=∀l,l<j->(decide (ids.getD l 0=0) || eX s (dz L S ids l) (dz L S ids i))=θ
theorem pF{L:List St}{S:List D3}{s:Sg}(h:uq L S ids s i j)(a:(decide (ids.getD j 0=0) || eX s (dz L S ids j) (dz L S ids i))=θ):uq L S ids s i (j+1):=fun l b=>by
 by_cases e:l=j
 ·rw[e];exact a
 ·exact h l (by omega)
theorem EO(L:List St)(S:List D3)(a:List Int)(s:Sg)(i:Nat):uq L S a s i 0:=fun j b=>absurd b (Nat.not_lt_zero _)
theorem Ch(L:List St)(S:List D3)(b:List Int)(k:Nat)(O:Int)(ar br ir:Option η)(cr dr er:Nat)(w:ω)(bD:k<=6)(hn:L.length<=12)(hS:aO w ar L L.length)(hD:bu w br S (k+1))(hI:jx w ir b k)
  (bd:∀i,i<=k->lV (vA S i)=θ) (aw:aX (atV L L.length O).1 (atV L L.length O).2.1 (atV L L.length O).2.2=θ) (ag:∀i,i<k->b.getD i 0≠0->aX (atV L L.length (b.getD i 0)).1 (atV L L.length (b.getD i 0)).2.1 (atV L L.length (b.getD i 0)).2.2=θ) :
  χ prog 196 #[σ ar L.length cr,σ br (k+1) dr,σ ir k er,J Z O] w fun e w'=>e=ρ (β (lD L S b (vA S k,(O,atV L L.length O)) k))/\δ w.1.size w w':=by
 have cA:=yz (fun (W:ω) (q:Int) hW=>yF L L.length q ar cr W (by omega) hW);have HS:=yz hS;have HD:=yz hD;have ap:=yz bd;have aT:=yz ag;have aW:Hid (∀i,dz L S b i=(vA S i,(b.getD i 0,atV L L.length (b.getD i 0)))):=yz (fun i=>rfl);clear hS hD bd ag;obtain⟨⟨p1,p2,p3⟩,hp⟩:∃p,vA S k=p:=⟨_,rfl⟩
 obtain⟨⟨t,u,v⟩,hq⟩:∃p,atV L L.length O=p:=⟨_,rfl⟩
 obtain⟨m,ax⟩:∃m:Sg,m=((p1,p2,p3),(O,t,u,v)):=⟨_,rfl⟩
 have cV:=yz (fun (W:ω) hW=>yx cA W O hW);rw[hq]at aw cV;have a1:Hid (lV (p1,p2,p3)=θ):=yz (by rw[<-hp];exact yx ap k (Ϗ _));have ae:=yz aw;rw[hp,hq,<-ax];have X:=yz ax;have HP:=yz hp;clear hp hq ax aw;generalize L.length=n at *;go_enter func196,ntmps196;go_wp2_with fail;refine(yx cV _ (yx HS)).mono ?_;rintro e W1 ⟨rfl,c⟩;unfold Fj;simp only;have a:=an W1 (ξ #[J Z t,J Z u,J Z v] 93);have U:=yz (ak c a);have al:=yz (aK W1 t u v 93);clear c a cV;go_wp2_with fail;generalize W1.alloc (ξ #[J Z t,J Z u,J Z v] 93)=W2 at U al ⊢;generalize W1.1.size=vb at *;rcases hI with h0 | ⟨ib,io,rfl,a6,a7⟩
 ·subst h0;refine wp_loop_rounds 1 ?_;rw[rounds_succ];go_wp2;go_ret;exact⟨rfl,yx U⟩
 have aU:=yz a7;clear a7;rcases yx HD with h | ⟨bb,bo,rfl,H,a4⟩
 ·omega
 have A:=yz a4;clear a4;go_loopw [11] (fun kk wr=>∃i:Nat,i<=k/\kk=J Z i/\Hid (∀j,j<i->kZ L S b m j=θ)/\Hid (aI wr vb t u v)/\Hid (δ w.1.size w wr)) (fun kk _=>k-(ύ kk).toNat)
 case atStart=>exact⟨0,by omega,rfl,yz (fun j hj=>absurd hj (Nat.not_lt_zero _)),al,U⟩
 case round=>
  clear al U;obtain⟨i,hi,rfl,HF,r,f⟩:=hrel;by_cases I:i<k
  ·have bs:(i:Int)<(k:Int):=by omega
   have ci:wr.cell? ⟨ib,io+i,ν⟩=ς (J Z (b.getD i 0)):=by rw[(yx f).cell (p:=⟨ib,io+i,ν⟩) a6];exact yx aU i I
   have C:=yz (yx aW i);obtain⟨x,aC⟩:∃x,b.getD i 0=x:=⟨_,rfl⟩
   rw[aC]at ci C;have HX:=yz aC;clear aC;by_cases az:x=0
   ·subst az;have d:=yz (ET (L:=L) (S:=S) (s:=m) (yx HX));go_wp2;go_roundw
    case rel=>exact⟨i+1,by omega,by go_num,yz (fun l hl=>by
     by_cases e:l=i
     ·rw[e];exact yx d
     ·exact yx HF l (by omega)),r,f⟩
    case measure=>simp[ύ]<;>omega
   have bA:(x==0)=φ:=by simp[az]
   have aa:Hid (b.getD i 0≠0):=yz (by rw[yx HX];exact az);by_cases aA:x=O
   ·subst aA;have B:=yz (uU I (ER (L:=L) (S:=S) (s:=m) (yx aa) (by rw[yx HX,yx X])));go_wp2;go_ret;exact⟨by rw[yx B];rfl,yx f⟩
   have bB:(x==O)=φ:=by simp[aA]
   have bg:Hid (m.2.1≠b.getD i 0):=yz (by rw[yx HX,yx X];exact fun e=>aA e.symm);have cW:=yz (fun (W:ω) hW=>yx cA W x hW);have g:=yx aT i I (yx aa);rw[yx HX]at g;obtain⟨⟨Q,R,T⟩,bf⟩:∃p,atV L n x=p:=⟨_,rfl⟩
   rw[bf]at cW g C;clear bf;obtain⟨⟨s1,s2,s3⟩,ac⟩:∃p,vA S i=p:=⟨_,rfl⟩
   have af:=yz ac;rw[ac]at C;have ay:=yx ap i (by omega);rw[ac]at ay;clear ac;go_wp2_with fail;refine(yx cW _ ((yx HS).kept (yx f))).mono ?_;rintro e W3 ⟨rfl,c⟩;unfold Fj;simp only;have a:=an W3 (ξ #[J Z Q,J Z R,J Z T] 93);have z:=aB (aB f c) a;have D:=yz (((yx r).kept (rn (yx r)) c).kept (ϑ (rn (yx r)) c.size) a);have F:=yz (aK W3 Q R T 93);clear c a cW ci f r;go_wp2_with fail;generalize W3.alloc (ξ #[J Z Q,J Z R,J Z T] 93)=W4 at z D F ⊢;generalize W3.1.size=wb at *;have N:=(yx A i (by omega)).kept H (yx z);have K:=(yx A k (by omega)).kept H (yx z);rw[yx af]at N;rw[yx HP]at K;have cC:=yz (fun W=>IS (s1,s2,s3) (p1,p2,p3) (Q,R,T) (t,u,v) ay (yx a1) g (yx ae) W);have ai:Hid (mV m (dz L S b i)=decide (rA s1 s2 s3 p1 p2 p3 Q R T t u v=0)):=yz (by rw[yx C,yx X];rfl);generalize rA s1 s2 s3 p1 p2 p3 Q R T t u v=cv at *;simp only at cC;obtain⟨c0,c1,c2⟩:=N;obtain⟨d0,d1,d2⟩:=K;obtain⟨e0,e1,e2⟩:=yx D;obtain⟨f0,f1,f2⟩:=yx F;have aF:=ϊ c0;have aG:=ϊ c1;have aJ:=ϊ c2;have aL:=ϊ d0;have rd1:=ϊ d1;have rd2:=ϊ d2;have aM:=ϊ e0;have aN:=ϊ e1;have aP:=ϊ e2;have aQ:=ϊ f0;have aR:=ϊ f1;have aS:=ϊ f2;clear c0 c1 c2 d0 d1 d2 e0 e1 e2 f0 f1 f2;have bt:(i:Int)<(k:Int)+1:=by omega
   have bz:(k:Int)<(k:Int)+1:=by omega
   refine de ?_;repeat (go_big_quiet_step (with_reducible first | exact aH cC))
   refine di fun dq P=>?_;have c:=ό W4 dq P;have V:=aB z c;have am:=yz ((yx D).kept (rn (yx D)) c);have ao:=yz ((yx F).kept (rn (yx F)) c);generalize grow (redrawn W4 dq) P=W5 at c V am ao ⊢;clear c aF aG aJ aL rd1 rd2 aM aN aP aQ aR aS cC z D F;by_cases ab:cv≠0
   ·have bq:(cv==0)=φ:=by simp[ab]
    have B:=yz (uU I (Ij (L:=L) (S:=S) (s:=m) (yx aa) (by rw[yx ai];exact decide_eq_false ab)));go_wp2;go_ret;exact⟨by rw[yx B];rfl,yx V⟩
   have a5:cv=0:=Decidable.not_not.1 ab;subst a5;clear ab;have bh:Hid (mV m (dz L S b i)=θ):=yz (by rw[yx ai];rfl);clear ai;go_wp2;go_loopw [13] (fun kk wr=>∃j:Nat,j<=i/\kk=J Z j/\Hid (uq L S b m i j)/\Hid (aI wr vb t u v)/\Hid (aI wr wb Q R T)/\Hid (δ w.1.size w wr)) (fun kk _=>i-(ύ kk).toNat)
   case atStart=>exact⟨0,by omega,rfl,yz (EO _ _ _ _ _),am,ao,V⟩
   case round=>
    clear am ao V;obtain⟨j,hj,rfl,HL,r,HW,f⟩:=hrel;by_cases bi:j<i
    ·have bv:(j:Int)<(i:Int):=by omega
     have bw:(j:Int)<(k:Int):=by omega
     have ci:wr.cell? ⟨ib,io+j,ν⟩=ς (J Z (b.getD j 0)):=by rw[(yx f).cell (p:=⟨ib,io+j,ν⟩) a6];exact yx aU j (by omega)
     have Y:=yz (yx aW j);obtain⟨y,aE⟩:∃x,b.getD j 0=x:=⟨_,rfl⟩
     rw[aE]at ci Y;have HY:=yz aE;clear aE;by_cases aD:y=0
     ·subst aD;have d:Hid ((decide (b.getD j 0=0) || eX m (dz L S b j) (dz L S b i))=θ):=yz (by rw[yx HY];rfl);go_wp2;go_roundw
      case rel=>exact⟨j+1,by omega,by go_num,yz (pF (yx HL) (yx d)),r,HW,f⟩
      case measure=>simp[ύ]<;>omega
     have bC:(y==0)=φ:=by simp[aD]
     have a2:Hid (b.getD j 0≠0):=yz (by rw[yx HY];exact aD);have cU:=yz (fun (W:ω) hW=>yx cA W y hW);have M:=yx aT j (by omega) (yx a2);rw[yx HY]at M;obtain⟨⟨u1,u2,u3⟩,bc⟩:∃p,atV L n y=p:=⟨_,rfl⟩
     rw[bc]at cU M Y;clear bc;obtain⟨⟨t1,t2,t3⟩,ad⟩:∃p,vA S j=p:=⟨_,rfl⟩
     have aY:=yz ad;rw[ad]at Y;have be:=yx ap j (by omega);rw[ad]at be;clear ad;go_wp2_with fail;refine(yx cU _ ((yx HS).kept (yx f))).mono ?_;rintro e W6 ⟨rfl,c⟩;unfold Fj;simp only;have a:=an W6 (ξ #[J Z u1,J Z u2,J Z u3] 93);have o:=aB (aB f c) a;have E:=yz (((yx r).kept (rn (yx r)) c).kept (ϑ (rn (yx r)) c.size) a);have G:=yz (((yx HW).kept (rn (yx HW)) c).kept (ϑ (rn (yx HW)) c.size) a);have aj:=yz (aK W6 u1 u2 u3 93);clear c a cU ci f r HW;go_wp2_with fail;generalize W6.alloc (ξ #[J Z u1,J Z u2,J Z u3] 93)=W7 at o E G aj ⊢;generalize W6.1.size=ub at *;have N:=(yx A i (by omega)).kept H (yx o);have ba:=(yx A j (by omega)).kept H (yx o);have K:=(yx A k (by omega)).kept H (yx o);rw[yx af]at N;rw[yx aY]at ba;rw[yx HP]at K;obtain⟨x1,x2,x3,dd,cX,cY,cZ⟩:=yg (t1,t2,t3) (s1,s2,s3) (p1,p2,p3) (gW be).1 (gW ay).1 (gW (yx a1)).1;obtain⟨y1,y2,y3,d2,aq,au,av⟩:=yg (u1,u2,u3) (Q,R,T) (t,u,v) (eA M).1 (eA g).1 (eA (yx ae)).1;have aV:Hid (eX m (dz L S b j) (dz L S b i)=decide (jA (xm (t1,t2,t3) (s1,s2,s3) (p1,p2,p3)) 0=jA (xm (u1,u2,u3) (Q,R,T) (t,u,v)) 0)):=yz (by rw[yx C,yx Y,yx X];rfl);generalize jA (xm (t1,t2,t3) (s1,s2,s3) (p1,p2,p3)) 0=o1 at *;generalize jA (xm (u1,u2,u3) (Q,R,T) (t,u,v)) 0=o2 at *;simp only at cX cY cZ aq au av;obtain⟨c0,c1,c2⟩:=N;obtain⟨d0,d1,a3⟩:=K;obtain⟨e0,e1,e2⟩:=yx E;obtain⟨f0,f1,f2⟩:=yx G;obtain⟨g0,g1,g2⟩:=yx aj;obtain⟨h0,h1,h2⟩:=ba;have aF:=ϊ c0;have aG:=ϊ c1;have aJ:=ϊ c2;have aL:=ϊ d0;have rd1:=ϊ d1;have rd2:=ϊ a3;have aM:=ϊ e0;have aN:=ϊ e1;have aP:=ϊ e2;have aQ:=ϊ f0;have aR:=ϊ f1;have aS:=ϊ f2;have bj:=ϊ g0;have bk:=ϊ g1;have bl:=ϊ g2;have bm:=ϊ h0;have bn:=ϊ h1;have bp:=ϊ h2;clear c0 c1 c2 d0 d1 a3 e0 e1 e2 f0 f1 f2 g0 g1 g2 h0 h1 h2;have bx:(j:Int)<(k:Int)+1:=by omega
     refine de ?_;repeat (go_big_quiet_step (with_reducible first | exact aH cX | exact aH cY | exact aH cZ | exact aH aq | exact aH au | exact aH av))
     refine di fun dq P=>?_;have c:=ό W7 dq P;have ah:=aB o c;have aZ:=yz ((yx E).kept (rn (yx E)) c);have a0:=yz ((yx G).kept (rn (yx G)) c);generalize grow (redrawn W7 dq) P=W8 at c ah aZ a0 ⊢;clear c aF aG aJ aL rd1 rd2 aM aN aP aQ aR aS bj bk bl bm bn bp cX cY cZ aq au av o E G aj;by_cases ho:o1=o2
     ·subst ho;have d:Hid ((decide (b.getD j 0=0) || eX m (dz L S b j) (dz L S b i))=θ):=yz (by rw[yx aV];simp);go_wp2;go_roundw
      case rel=>first | exact⟨j+1,by omega,by go_num,yz (pF (yx HL) (yx d)),aZ,a0,ah⟩ | exact⟨j+1,by omega,by omega,yz (pF (yx HL) (yx d))⟩
      case measure=>simp[ύ]<;>omega
     ·have bE:(o1==o2)=φ:=by simp[ho]
      have B:=yz (uU I (ES (L:=L) (S:=S) (s:=m) (yx aa) bi (yx a2) (by rw[yx aV];exact decide_eq_false ho)));go_wp2;go_ret;exact⟨by rw[yx B];rfl,yx ah⟩
    ·have a9:j=i:=by omega
     subst a9;have d:=yz (Il (yx bg) (yx bh) (yx HL));go_wp2;go_roundw
     case rel=>exact⟨j+1,by omega,by go_num,yz (fun l hl=>by
      by_cases e:l=j
      ·rw[e];exact yx d
      ·exact yx HF l (by omega)),r,f⟩
     case measure=>simp[ύ]<;>omega
  ·have a8:i=k:=by omega
   subst a8;have HY:=yz (GI (yx HF));go_wp2;go_ret;exact⟨by rw[yx HY];rfl,yx f⟩
theorem jx.less{w:ω}{a:Option η}{L:List Int}{n m:Nat}(h:jx w a L n)(g:m<=n):jx w a L m:=by
 rcases h with h | ⟨b,o,c,d,e⟩
 ·exact .inl (by omega)
 ·exact .inr ⟨b,o,c,d,fun i f=>e i (by omega)⟩
end
section
def pX(w:ω)(b:Nat)(v0 v1 v2:μ)(c m:Int):Prop:=w.cell? ⟨b,0,ν⟩=ς v0/\w.cell? ⟨b,1,ν⟩=ς v1/\w.cell? ⟨b,2,ν⟩=ς v2/\w.cell? ⟨b,3,ν⟩=ς (J Z c)/\w.cell? ⟨b,4,ν⟩=ς (J Z m)
variable {a:η} {c m:Int} {ids:List Int} {xs:List μ} {b x:Nat} {ir:Option η} {t:TypeId} {v v0 v1 v2:μ} {w w':ω}
theorem bY(h:w.cell? a=ς v)(b:δ w.1.size w w'):w'.cell? a=ς v:=(b.cell (World.block_lt_of_cell? w a h)).trans h
theorem fE{b:Option Nat}(h:w.cell? a=ς v)(d:w.grownBy w' b)(c:ς a.block≠b):w'.cell? a=ς v:=(World.cell?_of_block (d.block a.block (World.block_lt_of_cell? w a h) c)).trans h
theorem pX.kept(h:pX w b v0 v1 v2 c m)(a:δ w.1.size w w'):pX w' b v0 v1 v2 c m:=⟨bY h.1 a,bY h.2.1 a,bY h.2.2.1 a,bY h.2.2.2.1 a,bY h.2.2.2.2 a⟩
theorem pX.lt(h:pX w b v0 v1 v2 c m):b<w.1.size:=World.block_lt_of_cell? w _ h.1
def kf(w:ω)(b:Nat):Prop:=∀i,w.frozen? ⟨b,i,ν⟩=φ
theorem kf.kept(h:kf w b)(c:b<w.1.size)(a:δ w.1.size w w'):kf w' b:=fun i=>(a.frozen (p:=⟨b,i,ν⟩) c).trans (h i)
theorem kf.set(h:kf w b)(p:η)(v:μ):kf (w.setCell p v) b:=fun i=>by rw[World.frozen?_setCell];exact h i
def oM(w:ω)(x:Nat)(ir:Option η)(ids:List Int):Prop:=(ids=[]/\ir=ν)\/∃g,ir=ς ⟨g,0,ν⟩/\g≠x/\g<w.1.size/\∀i,i<ids.length->w.cell? ⟨g,i,ν⟩=ς (J Z (ids.getD i 0))
theorem oM.nums(h:oM w x ir ids):jx w ir ids ids.length:=by
 rcases h with ⟨rfl,_⟩ | ⟨g,rfl,_,c,a⟩
 ·exact .inl rfl
 ·exact .inr ⟨g,0,rfl,c,fun i b=>by rw[Nat.zero_add];exact a i b⟩
theorem oM.grown(h:oM w x ir ids)(b:w.grownBy w' (ς x)):oM w' x ir ids:=by
 rcases h with h | ⟨g,a,c,f,d⟩
 ·exact .inl h
 ·exact .inr ⟨g,a,c,ϑ f b.size,fun i a=>fE (d i a) b (fun e=>c (ώ e))⟩
def zr(a:Option η)(x:Nat):Prop:=∀y,a=ς y->y.block≠x
theorem Nr{a:Option η}{L:List St}{n:Nat}(h:aO w a L n)(c:w.grownBy w' (ς x))(f:zr a x):aO w' a L n:=by
 rcases h with h | ⟨b,o,rfl,p,q⟩
 ·exact .inl h
 ·refine .inr ⟨b,o,rfl,ϑ p c.size,fun i r=>?_⟩;have d:∀k,ς (⟨b,k,ν⟩:η).block≠ς x:=fun k e=>f _ rfl (ώ e);obtain⟨g,j,l,m⟩:=q i r;exact⟨fE g c (d _),fE j c (d _),fE l c (d _),fE m c (d _)⟩
theorem ND{a:Option η}{L:List D3}{n:Nat}(h:bu w a L n)(c:w.grownBy w' (ς x))(f:zr a x):bu w' a L n:=by
 rcases h with h | ⟨b,o,rfl,m,p⟩
 ·exact .inl h
 ·refine .inr ⟨b,o,rfl,ϑ m c.size,fun i q=>?_⟩;have d:∀k,ς (⟨b,k,ν⟩:η).block≠ς x:=fun k e=>f _ rfl (ώ e);obtain⟨g,j,l⟩:=p i q;exact⟨fE g c (d _),fE j c (d _),fE l c (d _)⟩
structure nc (w:ω) (x:Nat) (L:List St) (S:List D3) (ar br:Option η) (cr dr:Nat) (s:SeN):Prop where
 cells:∃v,pX w x (σ ar L.length cr) (σ br S.length dr) v (s.count:Int) (s.many:Int)/\w.ownsRow (x+1) 2 1 v s.best.length (jf s.best)
 free:kf w x
 stars:aO w ar L L.length
 dirs:bu w br S S.length
 apS:zr ar x
 apD:zr br x
theorem LK{B n m:Nat}(h:w.ownsRow B t m v n xs)(i:δ w.1.size w w'):w'.ownsRow B t m v n xs:=by
 obtain⟨f,b⟩:=h;refine⟨f,?_⟩;rcases b with b | ⟨g,d,a,e,j,c,r⟩
 ·exact .inl b
 ·exact .inr ⟨g,d,a,e,j,by rw[i.block g (Array.getElem?_eq_some_iff.1 c).1];exact c,r⟩
theorem ui{n m:Nat}(h:w.ownsRow (x+1) t m v n xs)(o:Nat)(y:μ):(w.setCell ⟨x,o,ν⟩ y).ownsRow (x+1) t m v n xs:=by
 obtain⟨d,b⟩:=h;refine⟨d,?_⟩;rcases b with b | ⟨g,c,a,e,f,i,r⟩
 ·exact .inl b
 ·exact .inr ⟨g,c,a,e,f,by rw[Below.heap_setCell w ⟨x,o,ν⟩ y g (by show g≠x;omega)];exact i,r⟩
theorem dX(h:δ w.1.size w w'):w.grownBy w' (ς x):=⟨h.os,h.tape,h.output,h.size,fun k a _=>h.block k a⟩
theorem nc.kept{L:List St}{S:List D3}{b c:Option η}{d e:Nat}{s:SeN}(h:nc w x L S b c d e s)(a:δ w.1.size w w'):nc w' x L S b c d e s:=by
 obtain⟨⟨v,f,j⟩,l,m,k,g,i⟩:=h;exact⟨⟨v,f.kept a,LK j a⟩,l.kept f.lt a,m.kept a,k.kept a,g,i⟩
def ey(L:List St)(S:List D3)(ids:List Int)(a:Int):Bool:=lD L S ids (vA S ids.length,(a,atV L L.length a)) ids.length
def AI(L:List St)(ids:List Int):Prop:=∀i,i<ids.length->ids.getD i 0≠0->aX (atV L L.length (ids.getD i 0)).1 (atV L L.length (ids.getD i 0)).2.1 (atV L L.length (ids.getD i 0)).2.2=θ
def IC(L:List St)(S:List D3)(ar br:Option η)(cr dr x r:Nat):Prop:=∀(ids:List Int) (s:SeN) (ir:Option η) (er:Nat) (w:ω),ids.length+r=S.length->AI L ids->s.many+13 ^ r<=100000000->s.count<=6->(ir=ν->er=0)->oM w x ir ids->nc w x L S ar br cr dr s ->
  χ prog 179 #[π (ς ⟨x,0,ν⟩),σ ir ids.length er,J Z (bd ids:Int)] w fun e w'=>(∃v,e=ρ v)/\nc w' x L S ar br cr dr (fM (ey L S) (L.map (·.1)) r ids s)/\w.grownBy w' (ς x)
theorem vn(L:List St)(S:List D3)(d f:Option η)(i j x r:Nat)(M:S.length<=6)(a:List Int)(s:SeN)(P:Option η)(D:Nat)(w:ω)(R:a.length+r=S.length)(H:s.count<=6)(b:nc w x L S d f i j s)(N:bd a+r<s.count):
  χ prog 179 #[π (ς ⟨x,0,ν⟩),σ P a.length D,J Z (bd a:Int)] w fun e n=>(∃v,e=ρ v)/\nc n x L S d f i j (fM (ey L S) (L.map (·.1)) r a s)/\w.grownBy n (ς x):=by
 have p:=yz b;have o:=yz (BN (F:=ey L S) (A:=L.map (·.1)) N);obtain⟨⟨v,E,G⟩,K,O,I,q,t⟩:=b;obtain⟨u,g,y,h,z⟩:=E;have U:=ϊ g;have V:=ϊ h;have Q:=oc a;generalize bd a=B at *;generalize a.length=k at *;generalize S.length=m at *;clear G K O I q t u g y h z;have T:(B:Int)+(m:Int)-(k:Int)<(s.count:Int):=by omega
 go_enter func179,ntmps179;go_wp2_with fail;refine de ?_;repeat (go_big_quiet_step (fail))
 refine di fun C c=>?_;have l:=ό w C c;go_wp2_with fail;refine ϋ (results_none rfl _ _ _) rfl ?_;exact⟨⟨_,rfl⟩,by rw[yx o];exact(yx p).kept l,dX l⟩
end
section
theorem tJ{P:Program}(w:ω)(t c e:TypeId)(i:TypeInfo)(b:P.underlying t=ς (.slice e))(a:P.info? e=ς i)(g:Nat):
  (Builtin.append_ #[t,t] c #[σ (ς ⟨g,0,ν⟩) 0 0,σ ν 0 0]).run P w=.ok (σ (ς ⟨g,0,ν⟩) 0 0) w:=by
 simp[Builtin.append_,run_underlying b,sizeOf,typeInfo,a,Builtin.lenOf,Builtin.firstCells,loadCells,loadCellsFrom,storeCells]
variable {c m:Int} {b g x:Nat} {v0 v1 v2:μ} {w w' w1 w2:ω}
theorem LB{a:List Int}(e:∀i,i<a.length->w.cell? ⟨g,i,ν⟩=ς (J Z (a.getD i 0)))(j:Nat)(u:μ)(c:(jf a)[j]? = ς u):w.cell? ((⟨g,0,ν⟩:η).add j)=ς u:=by
 have d:(⟨g,0,ν⟩:η).add j=⟨g,0+j,ν⟩:=by unfold Addr.add;split<;>simp_all
 unfold jf at c;rw[List.getElem?_map]at c
 have b:j<a.length:=by
  rcases Nat.lt_or_ge j a.length with h | h
  ·exact h
  ·rw[List.getElem?_eq_none h]at c;cases c
 rw[d,Nat.zero_add,e j b];rw[ϔ b]at c;rw[ϓ,ϔ b];exact c
theorem Jo(a:List Int):(jf a).length=a.length:=by unfold jf;rw[List.length_map]
theorem iY(w:ω){ops:Array Oper}{rest:List Oper}{o:Oper}{a:Act}{Q:Exit->Act->ω->Prop}(i:o.guard=ν)(s x:Operand)
  (v:o.op=.call { callee:=.builtin .append,args:=#[s,x],argTypes:=#[128,128] })
  (base g:Nat) (z:a.eval s=σ (ς ⟨g,0,ν⟩) 0 0) (e:w.ownsRow base 2 1 (σ (ς ⟨g,0,ν⟩) 0 0) 0 []) (y:Nat) (r:Option η) (l:Nat) (c:List Int) (m:a.eval x=σ r c.length l) (F:r=ν->l=0) (C:oM w y r c) (I:c.length<=6) (f:base<=w.1.size)
  (h:∀k j,j.ownsRow base 2 1 k c.length (jf c)->w.grownBy j (ς g)->wpList prog ops Q rest (a.put o.dst k) j):wpList prog ops Q (o :: rest) a w:=by
 obtain⟨A,d,n,p,q⟩:=info_parts nB;rcases C with ⟨rfl,rfl⟩ | ⟨b,rfl,_,K,E⟩
 ·obtain rfl:=F rfl;have G:=tJ (P:=prog) w 128 o.type 2 A underlying128 d g;refine wpList_plain i fun _ D=>?_;unfold Oper.wp execOp;simp only[List.length_nil]at m;simp only[v,resolve,invoke,builtin,Sem.run_bind,Sem.run_pure,Result.andThen_ok,List.map_toArray,List.map_cons,List.map_nil,z,m,G];exact D _ _ (h _ _ e ⟨rfl,rfl,rfl,Ϗ _,fun _ _ _=>rfl⟩)
 ·have L:6<=maxLen:=by decide +kernel
  refine wpList_append_own w i s x 128 v base 2 A (J Z 0) 1 8 underlying128 d n p q rfl (by decide) _ 0 [] z e ⟨b,0,ν⟩ c.length l (jf c) m (by rw[Jo,Nat.mul_one]) (LB E) (fun u H=>yE H) (by omega) (by omega) f ?_;intro k j t B _;rw[Nat.zero_add,List.nil_append]at t;exact h k j t B
theorem ju{B n m:Nat}{t:TypeId}{v:μ}{i:List μ}(h:w.ownsRow B t m v n i):∃a b,v=σ a n b:=by
 rcases h.2 with ⟨f,d⟩ | ⟨g,j,c,e,_⟩
 ·exact⟨ν,0,by rw[f,d]⟩
 ·exact⟨_,_,e⟩
theorem yr(h:w.grownBy w1 (ς x))(o:Nat)(y:μ):w.grownBy (w1.setCell ⟨x,o,ν⟩ y) (ς x):=fN h o y
theorem FF(h:w.grownBy w1 (ς x))(o:Obj):w.grownBy (w1.alloc o) (ς x):=⟨h.os,h.tape,h.output,ϐ h.size (by simp),fun k a b=>(Below.heap_alloc w1 o k (ϑ a h.size)).trans (h.block k a b)⟩
theorem Mr(h:w.grownBy w1 (ς x))(a:w1.grownBy w2 (ς g))(d:w.1.size<=g):w.grownBy w2 (ς x):=⟨a.os.trans h.os,a.tape.trans h.tape,a.output.trans h.output,ϐ h.size a.size,fun k b c=>(a.block k (ϑ b h.size) (fun e=>by have:=ώ e;omega)).trans (h.block k b c)⟩
theorem kL(h:w.grownBy w1 (ς x))(a:w1.grownBy w2 (ς x)):w.grownBy w2 (ς x):=⟨a.os.trans h.os,a.tape.trans h.tape,a.output.trans h.output,ϐ h.size a.size,fun k b c=>(a.block k (ϑ b h.size) c).trans (h.block k b c)⟩
theorem pX.grown{e:Option Nat}(h:pX w b v0 v1 v2 c m)(d:w.grownBy w' e)(a:ς b≠e):pX w' b v0 v1 v2 c m:=⟨fE h.1 d a,fE h.2.1 d a,fE h.2.2.1 d a,fE h.2.2.2.1 d a,fE h.2.2.2.2 d a⟩
theorem kf.grown{a:Option Nat}(h:kf w b)(e:b<w.1.size)(f:w.grownBy w' a)(c:ς b≠a):kf w' b:=fun i=>by
 have d:=h i;unfold World.frozen? at d ⊢;rw[f.block b e c];exact d
theorem LR(h:pX w b v0 v1 v2 c m)(a d:Int):pX ((w.setCell ⟨b,3,ν⟩ (J Z a)).setCell ⟨b,4,ν⟩ (J Z d)) b v0 v1 v2 a d:=by
 obtain⟨e,f,g,i,j⟩:=h;refine⟨?_,?_,?_,?_,?_⟩<;>simp[go_sem,e,f,g,i,j]
theorem FZ(h:pX w b v0 v1 v2 c m)(d:μ)(a:Int):pX ((w.setCell ⟨b,2,ν⟩ d).setCell ⟨b,4,ν⟩ (J Z a)) b v0 v1 d c a:=by
 obtain⟨e,f,g,i,j⟩:=h;refine⟨?_,?_,?_,?_,?_⟩<;>simp[go_sem,e,f,g,i,j]
theorem Gb{L:List St}{S:List D3}{b c:Option η}{d e:Nat}{s a:SeN}{f:μ}(h:nc w x L S b c d e s)(g:w.grownBy w' (ς x))(i:pX w' x (σ b L.length d) (σ c S.length e) f (a.count:Int) (a.many:Int))(k:w'.ownsRow (x+1) 2 1 f a.best.length (jf a.best))(j:kf w' x):nc w' x L S b c d e a:=
 ⟨⟨f,i,k⟩,j,Nr h.stars g h.apS,ND h.dirs g h.apD,h.apS,h.apD⟩
theorem GO(L:List St)(S:List D3)(ar br:Option η)(cr dr x:Nat)(ah:S.length<=6)(a:List Int)(s:SeN)(ir:Option η)(er:Nat)(w:ω)(hl:a.length+0=S.length)(i:s.many+1<=100000000)(ad:s.count<=6)(he:ir=ν->er=0)(hI:oM w x ir a)(aa:nc w x L S ar br cr dr s)(hp:¬bd a+0<s.count):
  χ prog 179 #[π (ς ⟨x,0,ν⟩),σ ir a.length er,J Z (bd a:Int)] w fun e w'=>(∃v,e=ρ v)/\nc w' x L S ar br cr dr (fM (ey L S) (L.map (·.1)) 0 a s)/\w.grownBy w' (ς x):=by
 obtain⟨y,H,n⟩:=s;dsimp only at i ad hp;have HS:=yz aa;have HI:=yz hI;have HF:=yz (DZ (F:=ey L S) (A:=L.map (·.1)) (s:=⟨y,H,n⟩) hp);obtain⟨⟨v,f,I⟩,d,M,K,E,G⟩:=aa;dsimp only at f;obtain⟨o,h,p,l,q⟩:=f;have r1:=ϊ h;have r3:=ϊ l;have hc:=oc a;obtain⟨c,z⟩:∃c,bd a=c:=⟨_,rfl⟩
 have Q:=yz z;rw[z]at hp hc ⊢;clear z;by_cases B:H<c
 ·have C:a.length<=6:=by omega
  have HE:=yz he;have g:Hid (S.length=a.length):=yz (by omega);clear I d M K E G o h p l q hI he;rw[yx g]at r1;have hq:¬(c:Int)<(H:Int):=by omega
  go_enter func179,ntmps179;go_wp2_with fail;refine de ?_;repeat (go_big_quiet_step (fail))
  refine di fun X k=>?_;have j:=ό w X k;generalize grow (redrawn w X) k=w1 at j ⊢;have U:=ap HS j;have I1:=yz ((yx HI).grown (dX j));have B1:=yz j;clear j r1 r3 HS HI hq;obtain⟨⟨v,f,I⟩,d,M,K,E,G⟩:=yx U;dsimp only at f;have H1:=yz f;have u:=yz d;have ab:=f.lt;obtain⟨o,h,p,l,q⟩:=f;rw[yx g]at h;have Y:=d 2;have f3:=d 3;have f4:=d 4;clear d M K E G I;have af:(H:Int)<(c:Int):=by omega
  have HO:Hid (eN ⟨y,H,n⟩ a=⟨a,c,1⟩):=yz (by unfold eN;rw[yx Q,if_pos B]);have hz:((w1.setCell ⟨x,3,ν⟩ (J Z (c:Int))).setCell ⟨x,4,ν⟩ (J Z 0)).1.size=w1.1.size:=by simp
  have R:Hid ((((w1.setCell ⟨x,3,ν⟩ (J Z (c:Int))).setCell ⟨x,4,ν⟩ (J Z 0)).alloc (ξ #[] 2)).ownsRow (x+1) 2 1 (σ (ς ⟨w1.1.size,0,ν⟩) 0 0) 0 []):=yz (by have:=lK ((w1.setCell ⟨x,3,ν⟩ (J Z (c:Int))).setCell ⟨x,4,ν⟩ (J Z 0)) (x+1) (by omega);rw[hz]at this;exact this);have b:Hid (w1.grownBy (((w1.setCell ⟨x,3,ν⟩ (J Z (c:Int))).setCell ⟨x,4,ν⟩ (J Z 0)).alloc (ξ #[] 2)) (ς x)):=yz (FF (yr (yr (jX w1 (ς x)) _ _) _ _) _);have T:=yz ((yx I1).grown (yx b));have r:=yz ((LR (yx H1) (c:Int) 0).kept (an _ (ξ #[] 2)));have O:=yz ((((yx u).set ⟨x,3,ν⟩ (J Z (c:Int))).set ⟨x,4,ν⟩ (J Z 0)).kept (by omega) (an _ (ξ #[] 2)));go_wp2_with (at_builtin;refine iY _ rfl _ _ rfl (x+1) w1.1.size rfl (yx R) x ir er a rfl (yx HE) (yx T) C ?d1 ?_)
  case d1=>simp;omega
  intro v' w3 D m;obtain⟨V,W,rfl⟩:=ju D;have N:=yz ((yx r).grown m (fun e=>by have:=ώ e;omega));have t:=yz ((yx O).grown (yx r).lt m (fun e=>by have:=ώ e;omega));have G3:=yz (Mr (yx b) m (Ϗ _));have O3:=yz D;clear D m o h p l q Y f3 f4 R b T r O hz;obtain⟨o,h,p,l,q⟩:=yx N;have Y:=yx t 2;have f4:=yx t 4;go_wp2_with fail;refine ϋ (results_none rfl _ _ _) rfl ?_;have P:=yr (yr (yx G3) 2 (σ V a.length W)) 4 (J Z 1);refine⟨⟨_,rfl⟩,?_,kL (dX (yx B1)) P⟩;rw[yx HF,yx HO];exact Gb (yx U) P (FZ (yx N) (σ V a.length W) 1) (ui (ui (yx O3) _ _) _ _) (((yx t).set _ _).set _ _)
 ·obtain rfl:c=H:=by omega
  have HO:Hid (eN ⟨y,c,n⟩ a=⟨a,c,n+1⟩):=yz (by unfold eN;dsimp only;rw[yx Q,if_neg B,if_pos rfl]);have ac:=yz (show (n:Int)+1<=100000000 by omega);clear B hp i;have C:a.length<=6:=by omega
  have HE:=yz he;have g:Hid (S.length=a.length):=yz (by omega);clear I d M K E G o h p l q hI he;rw[yx g]at r1;go_enter func179,ntmps179;go_wp2_with fail;refine de ?_;repeat (go_big_quiet_step (fail))
  refine di fun X k=>?_;have j:=ό w X k;generalize grow (redrawn w X) k=w1 at j ⊢;have U:=ap HS j;have I1:=yz ((yx HI).grown (dX j));have B1:=yz j;clear j r1 r3 HS HI;obtain⟨⟨v,f,I⟩,d,M,K,E,G⟩:=yx U;dsimp only at f;have H1:=yz f;have u:=yz d;have ab:=f.lt;obtain⟨o,h,p,l,q⟩:=f;rw[yx g]at h;have Y:=d 2;have f3:=d 3;have f4:=d 4;clear d M K E G I;have R:Hid ((w1.alloc (ξ #[] 2)).ownsRow (x+1) 2 1 (σ (ς ⟨w1.1.size,0,ν⟩) 0 0) 0 []):=yz (lK w1 (x+1) (by omega));have b:Hid (w1.grownBy (w1.alloc (ξ #[] 2)) (ς x)):=yz (FF (jX w1 (ς x)) _);have T:=yz ((yx I1).grown (yx b));have r:=yz ((yx H1).kept (an _ (ξ #[] 2)));have O:=yz ((yx u).kept ab (an _ (ξ #[] 2)));go_wp2_with (at_builtin;refine iY _ rfl _ _ rfl (x+1) w1.1.size rfl (yx R) x ir er a rfl (yx HE) (yx T) C ?d1 ?_)
  case d1=>simp;omega
  intro v' w3 D m;obtain⟨V,W,rfl⟩:=ju D;have N:=yz ((yx r).grown m (fun e=>by have:=ώ e;omega));have t:=yz ((yx O).grown (yx r).lt m (fun e=>by have:=ώ e;omega));have G3:=yz (Mr (yx b) m (Ϗ _));have O3:=yz D;clear D m o h p l q Y f3 f4 R b T r O;obtain⟨o,h,p,l,q⟩:=yx N;have ai:=yx ac;have ag:(0:Int)<=(n:Int):=by omega
  generalize ae:(n:Int)=mi at *;have Y:=yx t 2;have f4:=yx t 4;go_wp2_with fail;subst ae;refine ϋ (results_none rfl _ _ _) rfl ?_;have P:=yr (yr (yx G3) 2 (σ V a.length W)) 4 (J Z ((n:Int)+1));refine⟨⟨_,rfl⟩,?_,kL (dX (yx B1)) P⟩;rw[yx HF,yx HO];exact Gb (yx U) P (FZ (yx N) (σ V a.length W) ((n:Int)+1)) (ui (ui (yx O3) _ _) _ _) (((yx t).set _ _).set _ _)
end
section
theorem Hc(b:List Int)(a:Int):jf b ++ [J Z a]=jf (b ++ [a]):=by unfold jf;rw[List.map_append];rfl
variable {ids:List Int} {xs:List μ} {a:Option η} {w:ω}
theorem FH{B x d:Nat}(h:w.ownsRow B 2 1 (σ a ids.length d) ids.length (jf ids))(s:x<B):oM w x a ids:=by
 rcases h.2 with ⟨f,m⟩ | ⟨g,q,c,e,r,j,p,n,o,b⟩
 ·injection f with f;exact .inl ⟨List.eq_nil_of_length_eq_zero m,f⟩
 ·injection e with e1;refine .inr ⟨g,e1,by omega,(Array.getElem?_eq_some_iff.1 j).1,fun i k=>?_⟩;rw[cell_of_row w g i c _ _ j]
  have l:c[i]? = (jf ids)[i]?:=by
   rw[<-b,List.getElem?_take,if_pos (by omega)];simp
  rw[l];unfold jf;rw[List.getElem?_map,ϔ k,ϓ,ϔ k];rfl
theorem CG{B n b:Nat}(h:w.ownsRow B 2 1 (σ a n b) n xs)(f:a=ν):b=0:=by
 rcases h.2 with ⟨d,j⟩ | ⟨g,i,c,e,_⟩
 ·injection d
 ·injection e with e1;rw[f]at e1;cases e1
theorem Kc{B n:Nat}{v:μ}(h:w.ownsRow B 2 1 v n xs)(g:Nat)(e:v.ownBlock=ς g):B<=g:=by
 rcases h.2 with ⟨c,_⟩ | ⟨f,d,a,b,i,_⟩
 ·rw[c]at e;cases e
 ·rw[b]at e;simp[Value.ownBlock]at e;omega
theorem nV(w:ω){ops:Array Oper}{rest:List Oper}{o:Oper}{a:Act}{Q:Exit->Act->ω->Prop}(l:o.guard=ν)(s x:Operand)
  (A:o.op=.call { callee:=.builtin .append,args:=#[s,x],argTypes:=#[128,128] })
  (base:Nat) (v:μ) (b:List Int) (B:a.eval s=v) (f:w.ownsRow base 2 1 v b.length (jf b)) (g:Nat) (z:Int) (D:a.eval x=σ (ς ⟨g,0,ν⟩) 1 1) (y:w.cell? ⟨g,0,ν⟩=ς (J Z z)) (F:b.length<=6) (c:base<=w.1.size)
  (h:∀k i,i.ownsRow base 2 1 k (b ++ [z]).length (jf (b ++ [z]))->w.grownBy i v.ownBlock->wpList prog ops Q rest (a.put o.dst k) i):wpList prog ops Q (o :: rest) a w:=by
 obtain⟨E,d,m,n,p⟩:=info_parts nB;have G:7<=maxLen:=by decide +kernel
 refine wpList_append_own w l s x 128 A base 2 E (J Z 0) 1 8 underlying128 d m n p rfl (by decide) v b.length (jf b) B f ⟨g,0,ν⟩ 1 1 [J Z z] D rfl ?_ (fun u C=>by rw[List.mem_singleton.1 C];rfl) (by omega) (by omega) c ?_
 ·intro j u e
  match j,e with
  | 0,e=>
   obtain rfl:Value.int .i64 z=u:=by simpa using e
   have t:(⟨g,0,ν⟩:η).add 0=⟨g,0,ν⟩:=by unfold Addr.add;split<;>simp_all
   rw[t];exact y
  | j+1,e=>simp at e
 ·intro k i q r _;rw[Hc]at q;exact h k i (by rw[ϕ];exact q) r
theorem wH{L:List St}{a:Int}(h:AI L ids)(d:a≠0->aX (atV L L.length a).1 (atV L L.length a).2.1 (atV L L.length a).2.2=θ):AI L (ids ++ [a]):=by
 intro i f b;rw[ϕ,List.length_singleton]at f;by_cases e:i<ids.length
 ·have c:(ids ++ [a]).getD i 0=ids.getD i 0:=by rw[ϓ,ϓ,ϖ e]
  rw[c]at b ⊢;exact h i e b
 ·have c:(ids ++ [a]).getD i 0=a:=by
   rw[ϓ,ϗ (by omega),show i-ids.length=0 by omega];rfl
  rw[c]at b ⊢;exact d b
theorem DY(F:List Int->Int->Bool)(A:List Int):∀(r:Nat) (a:List Int) (s:SeN),s.count<=6->a.length+r<=6->(fM F A r a s).count<=6:=by
 intro r a s c f;rw[nw];have b:∀l∈gJ F A r a,bd l<=6:=fun l d=>by have:=qc F A r a l d;have:=oc a;omega
 generalize gJ F A r a=M at b
 induction M generalizing s with
 | nil=>exact c
 | cons l M ih=>
  rw[List.foldl_cons];refine ih (eN s l) ?_ (fun x e=>b x (by simp[e]));have g:=AO s l;have h:=b l (by simp);omega
theorem vP(F:List Int->Int->Bool)(A:List Int)(r:Nat)(a:List Int)(s:SeN)(b:s.count<=6)(d:a.length+1+r<=6):∀i,i<=A.length->(gU F A r a s i).count<=6
 | 0,_=>b
 | i+1,h=>by
  rw[mz F A r a s (by omega)];have c:=vP F A r a s b d i (by omega);split
  ·exact DY F A r _ _ c (by rw[ϕ,List.length_singleton];omega)
  ·exact c
end
theorem JD{L:List St}{i:Nat}(a:i<L.length):(L.map (·.1)).getD i 0=(stA L i).1:=by
 unfold stA;rw[ϓ,List.getElem?_map,ϓ,ϔ a];rfl
theorem wQ{L:List St}(b:bE L=θ){i:Nat}(a:i<L.length):aX (atV L L.length (stA L i).1).1 (atV L L.length (stA L i).1).2.1 (atV L L.length (stA L i).1).2.2=θ/\(stA L i).1≠0:=by
 rw[DM b a];have h:=(ff b).2 i a;unfold gB at h;simp only[Bool.and_eq_true]at h;refine⟨?_,fun e=>?_⟩
 ·simp_all
 ·have:idB (stA L i).1=θ:=by simp_all
  rw[e]at this;exact absurd this (by decide)
theorem GP(L:List St)(S:List D3)(ar V:Option η)(cr N x r:Nat)(hk:bE L=θ)(ax:aQ S=θ)(aG:S.length<=N)(aF:N<=9223372036854775807)(ih:IC L S ar V cr N x r)
  (a:List Int) (s:SeN) (ir:Option η) (er:Nat) (w:ω) (hl:a.length+(r+1)=S.length) (ad:AI L a) (R:s.many+13 ^ (r+1)<=100000000) (aA:s.count<=6) (he:ir=ν->er=0) (hI:oM w x ir a) (n:nc w x L S ar V cr N s) (hp:¬bd a+(r+1)<s.count) :
  χ prog 179 #[π (ς ⟨x,0,ν⟩),σ ir a.length er,J Z (bd a:Int)] w fun e w'=>(∃v,e=ρ v)/\nc w' x L S ar V cr N (fM (ey L S) (L.map (·.1)) (r+1) a s)/\w.grownBy w' (ς x):=by
 have au:L.length<=12:=(ff hk).1;have aK:S.length<=6:=(bN ax).1;have az:(L.map (·.1)).length=L.length:=List.length_map _;have HF:=yz (Ef (F:=ey L S) (A:=L.map (·.1)) hp);have ai:=yz ih;have HE:=yz he;have aq:=yz ad;have HS:=yz n;have ah:=yz hI
 have cF:Hid (∀(id:Int) (W:ω),aX (atV L L.length id).1 (atV L L.length id).2.1 (atV L L.length id).2.2=θ->aO W ar L L.length->bu W V S S.length->jx W ir a a.length->χ prog 196 #[σ ar L.length cr,σ V (a.length+1) N,σ ir a.length er,J Z id] W fun e w'=>e=ρ (β (ey L S a id))/\δ W.1.size W w'):=
  yz (fun id W H G h3 h4=>Ch L S a a.length id ar V ir cr N er W (by omega) au G (h3.less (by omega)) h4 (fun i hi=>nK ((bN ax).2 i (by omega))) H (fun i hi h0=>ad i hi h0))
 have al:Hid (∀i,i<=L.length->(gU (ey L S) (L.map (·.1)) r a s i).many+13 ^ r<=100000000):=yz (fun i hi=>by
  have H:=vN (ey L S) (L.map (·.1)) (by omega) r a s i (by omega);have G:i*13 ^ r<=12*13 ^ r:=Nat.mul_le_mul_right _ (by omega);rw[Nat.pow_succ]at R
  omega)
 have af:Hid (∀i,i<=L.length->(gU (ey L S) (L.map (·.1)) r a s i).count<=6):=yz (fun i hi=>vP (ey L S) (L.map (·.1)) r a s aA (by omega) i (by omega));have hc:=oc a;have aJ:a.length+1<=S.length:=by omega
 have X:a.length<=6:=by omega
 have hq:¬(bd a+S.length-a.length<s.count):=by omega
 obtain⟨⟨v,H,G⟩,hf,hs,hd,a1,a2⟩:=n;obtain⟨c0,c1,c2,c3,c4⟩:=H;have r1:=ϊ c1;have r3:=ϊ c3;clear G hf hs hd a1 a2 c0 c1 c2 c3 c4 hI ih he ad R hp;have aL:¬(bd a:Int)+(S.length:Int)-(a.length:Int)<(s.count:Int):=by omega
 have aB:¬(a.length:Int)=(S.length:Int):=by omega
 have aE:((a.length:Int)==(S.length:Int))=φ:=by rw[beq_eq_false_iff_ne];exact aB
 go_enter func179,ntmps179;go_wp2_with fail;refine de ?_;repeat (go_big_quiet_step (fail))
 refine di fun dq ay=>?_;have t:=ό w dq ay;generalize grow (redrawn w dq) ay=w1 at t ⊢;have S1:=ap HS t;have I1:=yz ((yx ah).grown (dX (x:=x) t));have G1:=yz (dX (x:=x) t);clear t r1 r3 HS;obtain⟨⟨v,H,G⟩,hf,hs,hd,a1,a2⟩:=yx S1;obtain⟨c0,c1,c2,c3,c4⟩:=H;clear G hf hs hd a1 a2;go_wp2;go_loopw [7] (fun i wr=>∃k:Nat,k<=L.length/\i=J Z k/\Hid (nc wr x L S ar V cr N (gU (ey L S) (L.map (·.1)) r a s k))/\Hid (w.grownBy wr (ς x))) (fun i _=>L.length-(ύ i).toNat)
 case atStart=>exact⟨0,ϒ _,rfl,yz (by rw[vO];exact yx S1),G1⟩
 case round=>
  clear c0 c1 c2 c3 c4 S1 G1 I1;obtain⟨k,aI,rfl,j,U⟩:=hrel;have Y:=yz ((yx ah).grown (yx U));obtain⟨⟨v,H,G⟩,hf,hs,hd,a1,a2⟩:=yx j;obtain⟨c0,c1,c2,c3,c4⟩:=H;by_cases ac:k<L.length
  ·obtain⟨⟨I,s2,s3,s4⟩,n⟩:∃q,stA L k=q:=⟨_,rfl⟩
   have C:=wQ hk ac;have aj:Hid ((L.map (·.1)).getD k 0=I):=yz (by rw[JD ac,n]);rw[n]at C;have aD:=yz n;have aC:(k:Int)<(L.length:Int):=by omega
   rcases hs with hs | ⟨b,o,rfl,hb,aa⟩
   ·omega
   have d0:=(aa k ac).1;rw[n]at d0;have ao:Hid (aO wr (ς ⟨b,o,ν⟩) L L.length):=yz (.inr ⟨b,o,rfl,hb,aa⟩);have ag:=yz hd;have E:=yz (fun (W:ω) (hB:δ wr.1.size wr W)=>yx cF I W C.1 ((yx ao).kept hB) ((yx ag).kept hB) ((yx Y).nums.kept hB));have am:=yz C;clear aa n G hf hd a1 a2 C;go_wp2_with fail;have q0:=ϊ c0;have q1:=ϊ c1;have aH:(a.length:Int)+1<=(N:Int):=by omega
   cases B:ey L S a I
   ·rw[B]at E;refine de ?_;repeat (go_big_quiet_step (first | (with_reducible exact Calls.regrown_of (yx E _ (ό _ _ _)))))
    refine wpQuiet_nil ?_;intro _ ae;obtain⟨⟨M,p⟩,T⟩:=ae;subst T;have t:=ό wr M p;generalize grow (redrawn wr M) p=u at t ⊢;have HR:Hid (gU (ey L S) (L.map (·.1)) r a s (k+1)=gU (ey L S) (L.map (·.1)) r a s k):=yz (by rw[mz _ _ _ _ _ (by omega),yx aj,B];rfl);have S5:Hid (nc u x L S (ς ⟨b,o,ν⟩) V cr N (gU (ey L S) (L.map (·.1)) r a s (k+1))):=yz (by rw[yx HR];exact(yx j).kept t);have G5:=yz (kL (yx U) (dX (x:=x) t));clear t c0 c1 c2 c3 c4 d0 q0 q1 j U Y E;go_wp2;go_roundw
    case rel=>first | exact⟨k+1,by omega,by go_num,S5,G5⟩ | exact⟨k+1,by omega,by go_num,S5⟩
    case measure=>simp[ύ];omega
   ·rw[B]at E;refine de ?_;repeat (go_big_quiet_step (first | (with_reducible exact Calls.regrown_of (yx E _ (ό _ _ _)))))
    refine wpQuiet_nil ?_;intro _ ae;obtain⟨⟨M,p⟩,T⟩:=ae;subst T;have t:=ό wr M p;generalize grow (redrawn wr M) p=u at t ⊢;have HR:Hid (gU (ey L S) (L.map (·.1)) r a s (k+1)=fM (ey L S) (L.map (·.1)) r (a ++ [I]) (gU (ey L S) (L.map (·.1)) r a s k)):=yz (by rw[mz _ _ _ _ _ (by omega),yx aj,B];rfl);replace j:=ap j t;replace U:=yz (kL (yx U) (dX (x:=x) t));replace Y:=yz ((yx Y).grown (dX (x:=x) t));clear t c0 c1 c2 c3 c4 d0 q0 q1 E ao ag;have Q:x<u.1.size:=by obtain⟨⟨_,hh,_⟩,_⟩:=yx j;exact hh.lt
    have HN:=yz (lK u u.1.size (Ϗ _));have IA:=yz ((yx Y).grown (dX (x:=x) (an u (ξ #[] 2))));go_wp2_with (at_builtin;refine iY _ rfl _ _ rfl u.1.size u.1.size rfl (yx HN) x ir er a rfl (yx HE) (yx IA) X ?d1 ?_);try case d1=>simp
    intro v1 D z c;obtain⟨av,cv,rfl⟩:=ju z;have f:Hid (δ u.1.size u D):=yz ((an u (ξ #[] 2)).trans ⟨c.os,c.tape,c.output,c.size,fun k ab=>c.block k (by simp;omega) (fun e=>by have:=ώ e;omega)⟩);have O4:=yz (LK z (an D (ξ #[J Z I] 2)));have K:Hid ((D.alloc (ξ #[J Z I] 2)).cell? ⟨D.1.size,0,ν⟩=ς (J Z I)):=yz (by simp);clear z c IA HN;go_wp2_with (at_builtin;refine nV _ rfl _ _ rfl u.1.size (σ av a.length cv) a rfl (yx O4) D.1.size I rfl (yx K) X ?d2 ?_);try case d2=>have:=(yx f).size;simp;omega
    intro v2 V2 l d;obtain⟨aw,cw,rfl⟩:=ju l;have m:∀g,Value.ownBlock (σ av a.length cv)=ς g->u.1.size<=g:=fun g e=>Kc (yx O4) g e;have y:δ u.1.size u V2:=(ak (yx f) (an D (ξ #[J Z I] 2))).trans ⟨d.os,d.tape,d.output,by have:=(yx f).size;have:=d.size;simp at this ⊢;omega,fun k ab=>d.block k (by have:=(yx f).size;simp;omega) (fun e=>by have:=m k e.symm;omega)⟩;have S5:=ap j y;have G5:=yz (kL (yx U) (dX (x:=x) y));have I5:=yz (FH (ids:=a ++ [I]) (by rw[ϕ,List.length_singleton];exact l) Q);have E5:=yz (CG l);have M5:=yz (wH (yx aq) (fun _=>(yx am).1));have C5:Hid ((bd (a ++ [I]):Int)=(bd a:Int)+1):=yz (by rw[lB];rw[if_pos (yx am).2];omega);clear l d m y f O4 K j Y U Q;have cI:=yz (fun (H:_) (G:_)=>yx ai (a ++ [I]) (gU (ey L S) (L.map (·.1)) r a s k) aw cw V2 (by rw[ϕ,List.length_singleton];omega) (yx M5) H G (yx E5) (yx I5) (yx S5));rw[yx C5,ϕ,List.length_singleton]at cI;go_wp2_with fail;refine(yx cI (yx al k (by omega)) (yx af k (by omega))).mono ?_;rintro e W6 ⟨⟨ve,rfl⟩,P,O⟩;have S6:Hid (nc W6 x L S (ς ⟨b,o,ν⟩) V cr N (gU (ey L S) (L.map (·.1)) r a s (k+1))):=yz (by rw[yx HR];exact P);have G6:=yz (kL (yx G5) O);clear P O S5 G5 I5 E5 M5 C5 cI;go_wp2;go_roundw
    case rel=>first | exact⟨k+1,by omega,by go_num,S6,G6⟩ | exact⟨k+1,by omega,by go_num,S6⟩ | exact⟨J Z ((k:Int)+1),_,_,_,_,_,_,_,_,_,_,_,_,_,_,_,_,_,_,_,_,_,_,_,_,_,_,_,_,_,_,_,_,_,_,_,_,_,_,_,_,_,_,⟨k+1,by omega,by go_num,S6,G6⟩,rfl⟩
    case measure=>simp[ύ];omega
  ·obtain rfl:k=L.length:=by omega
   clear G hf hs hd a1 a2;have Q:x<wr.1.size:=by obtain⟨⟨_,hh,_⟩,_⟩:=yx j;exact hh.lt
   have HN:=yz (lK wr wr.1.size (Ϗ _));have IA:=yz ((yx Y).grown (dX (x:=x) (an wr (ξ #[] 2))));go_wp2_with (at_builtin;(refine iY _ rfl _ _ rfl wr.1.size wr.1.size rfl (yx HN) x ir er a rfl (yx HE) (yx IA) X ?d3 ?_));try case d3=>simp
   intro v1 D z c;obtain⟨av,cv,rfl⟩:=ju z;have f:Hid (δ wr.1.size wr D):=yz ((an wr (ξ #[] 2)).trans ⟨c.os,c.tape,c.output,c.size,fun k ab=>c.block k (by simp;omega) (fun e=>by have:=ώ e;omega)⟩);have O4:=yz (LK z (an D (ξ #[J Z 0] 2)));have K:Hid ((D.alloc (ξ #[J Z 0] 2)).cell? ⟨D.1.size,0,ν⟩=ς (J Z 0)):=yz (by simp);clear z c IA HN;go_wp2_with (at_builtin;refine nV _ rfl _ _ rfl wr.1.size (σ av a.length cv) a rfl (yx O4) D.1.size 0 rfl (yx K) X ?d4 ?_);try case d4=>have:=(yx f).size;simp;omega
   intro v2 V2 l d;obtain⟨aw,cw,rfl⟩:=ju l;have m:∀g,Value.ownBlock (σ av a.length cv)=ς g->wr.1.size<=g:=fun g e=>Kc (yx O4) g e;have y:δ wr.1.size wr V2:=(ak (yx f) (an D (ξ #[J Z 0] 2))).trans ⟨d.os,d.tape,d.output,by have:=(yx f).size;have:=d.size;simp at this ⊢;omega,fun k ab=>d.block k (by have:=(yx f).size;simp;omega) (fun e=>by have:=m k e.symm;omega)⟩;have S5:=ap j y;have G5:=yz (kL (yx U) (dX (x:=x) y));have I5:=yz (FH (ids:=a ++ [0]) (by rw[ϕ,List.length_singleton];exact l) Q);have E5:=yz (CG l);have M5:=yz (wH (yx aq) (fun h=>absurd rfl h));have C5:Hid ((bd (a ++ [0]):Int)=(bd a:Int)):=yz (by rw[lB];simp);clear l d m y f O4 K j Y U Q;have cI:=yz (fun (H:_) (G:_)=>yx ai (a ++ [0]) (gU (ey L S) (L.map (·.1)) r a s L.length) aw cw V2 (by rw[ϕ,List.length_singleton];omega) (yx M5) H G (yx E5) (yx I5) (yx S5));rw[yx C5,ϕ,List.length_singleton]at cI;go_wp2_with fail;refine(yx cI (yx al _ (Ϗ _)) (yx af _ (Ϗ _))).mono ?_;rintro e W6 ⟨⟨ve,rfl⟩,P,O⟩;have S6:=yz P;have G6:=yz (kL (yx G5) O);clear P O S5 G5 I5 E5 M5 C5 cI;go_wp2_with fail;go_end0
   refine⟨⟨_,rfl⟩,?_,yx G6⟩;rw[yx HF,az];exact yx S6
section
theorem BO(L:List St)(S:List D3)(e f:Option η)(g d x:Nat)(u:bE L=θ)(b:aQ S=θ)(k:S.length<=d)(j:d<=9223372036854775807):∀r,IC L S e f g d x r
 | 0=>fun a s o h w l n t i q p c=>by
  by_cases m:bd a+0<s.count
  ·exact vn L S e f g d x 0 (bN b).1 a s o h w l i c m
  ·exact GO L S e f g d x (bN b).1 a s o h w l (by simpa using t) i q p c m
 | r+1=>fun a s o h w l n t i q p c=>by
  by_cases m:bd a+(r+1)<s.count
  ·exact vn L S e f g d x (r+1) (bN b).1 a s o h w l i c m
  ·exact GP L S e f g d x r u b k j (BO L S e f g d x u b k j r) a s o h w l n t i q p c m
def idR(L:List St)(S:List D3):SeN:=fM (ey L S) (L.map (·.1)) S.length [] ⟨[],3,0⟩
def dL(L:List St)(S:List D3):List Int:=if (idR L S).many=1 then (idR L S).best else []
def gm(L:List St)(S:List D3):Int:=if (idR L S).many=1 then ((idR L S).count:Int) else 0
def dn(L:List St)(S:List D3):Int:=if (idR L S).many=0 then 6 else if 1<(idR L S).many then 11 else 0
def MC(w':ω)(B:Nat)(ids:List Int)(cnt code:Int)(e:Ending):Prop:=∃v,e=ρ (κ #[v,J Z cnt,J Z code])/\w'.ownsRow B 2 1 v ids.length (jf ids)
def IdO(w:ω)(b:Nat)(v:μ)(c k:Int):Prop:=w.cell? ⟨b,0,ν⟩=ς v/\w.cell? ⟨b,1,ν⟩=ς (J Z c)/\w.cell? ⟨b,2,ν⟩=ς (J Z k)
variable {c k:Int} {b:Nat} {v:μ} {w w':ω}
theorem IdO.grown{d:Option Nat}(h:IdO w b v c k)(e:w.grownBy w' d)(a:ς b≠d):IdO w' b v c k:=⟨fE h.1 e a,fE h.2.1 e a,fE h.2.2 e a⟩
theorem IdO.kept(h:IdO w b v c k)(a:δ w.1.size w w'):IdO w' b v c k:=⟨bY h.1 a,bY h.2.1 a,bY h.2.2 a⟩
theorem kM{i:μ}{a g:Int}(h:IdO w b i a g)(v:μ)(c k:Int):IdO (((w.setCell ⟨b,0,ν⟩ v).setCell ⟨b,1,ν⟩ (J Z c)).setCell ⟨b,2,ν⟩ (J Z k)) b v c k:=by
 obtain⟨d,e,f⟩:=h;refine⟨?_,?_,?_⟩<;>simp[go_sem,d,e,f]
theorem Az(T:Array μ)(X:ω)(b:Nat)(v:μ)(c k:Int)(a:T.getD 4 undef=π (ς ⟨b,0,ν⟩))(h:IdO X b v c k):(results f156 T).run prog X=.ok (κ #[v,J Z c,J Z k]) X:=by
 obtain⟨d,e,f⟩:=h;simp only[Array.getD_eq_getD_getElem?]at a;simp[results,results156,go_sem,a,d,e,f]
theorem Ay{B n:Nat}{d:List μ}(h:w.ownsRow B 2 1 v n d)(l:b<B)(o:Nat)(y:μ):(w.setCell ⟨b,o,ν⟩ y).ownsRow B 2 1 v n d:=by
 obtain⟨i,c⟩:=h;refine⟨i,?_⟩;rcases c with c | ⟨g,f,a,e,j,k,r⟩
 ·exact .inl c
 ·exact .inr ⟨g,f,a,e,j,by rw[Below.heap_setCell w ⟨b,o,ν⟩ y g (by show g≠b;omega)];exact k,r⟩
theorem tG(L:List St)(S:List D3)(c d:Option η)(m f:Nat)(w:ω)(hk:bE L=θ)(A:aQ S=θ)(ab:S.length<=f)(aa:f<=9223372036854775807)(hS:aO w c L L.length)(hD:bu w d S S.length)(hA:∀y,c=ς y->y.block<w.1.size)(hB:∀y,d=ς y->y.block<w.1.size):
  χ prog 156 #[σ c L.length m,σ d S.length f] w fun e F=>MC F w.1.size (dL L S) (gm L S) (dn L S) e/\δ w.1.size w F:=by
 have G:=aJ w (ξ #[σ ν 0 0,J Z 0,J Z 0] 192) (ξ #[σ c L.length m,σ d S.length f,σ ν 0 0,J Z 3,J Z 0] 224);have R0:IdO ((w.alloc (ξ #[σ ν 0 0,J Z 0,J Z 0] 192)).alloc (ξ #[σ c L.length m,σ d S.length f,σ ν 0 0,J Z 3,J Z 0] 224)) w.1.size (σ ν 0 0) 0 0:=IdO.kept (w:=w.alloc (ξ #[σ ν 0 0,J Z 0,J Z 0] 192)) (by refine⟨?_,?_,?_⟩<;>simp) (an _ _);have F0:kf ((w.alloc (ξ #[σ ν 0 0,J Z 0,J Z 0] 192)).alloc (ξ #[σ c L.length m,σ d S.length f,σ ν 0 0,J Z 3,J Z 0] 224)) w.1.size:=kf.kept (w:=w.alloc (ξ #[σ ν 0 0,J Z 0,J Z 0] 192)) (fun i=>by simp) (by simp) (an _ _)
 have t:nc ((w.alloc (ξ #[σ ν 0 0,J Z 0,J Z 0] 192)).alloc (ξ #[σ c L.length m,σ d S.length f,σ ν 0 0,J Z 3,J Z 0] 224)) (w.1.size+1) L S c d m f ⟨[],3,0⟩:=by
  refine⟨⟨σ ν 0 0,?_,World.ownsRow_nil _ _ _ _⟩,?_,hS.kept G,hD.kept G,fun y e=>by have:=hA y e;omega,fun y e=>by have:=hB y e;omega⟩
  ·refine⟨?_,?_,?_,?_,?_⟩<;>simp
  ·intro i;simp
 have cM:=yz (BO L S c d m f (w.1.size+1) hk A ab aa S.length [] ⟨[],3,0⟩ ν 0 _ (by simp) (fun i hi=>absurd hi (by simp)) (by have h6:=(bN A).1;have:13 ^ S.length<=13 ^ 6:=Nat.pow_le_pow_right (by decide) h6;simp only;omega) (by decide) (fun _=>rfl) (.inl ⟨rfl,rfl⟩) t);have HB:=yz G;have HR:=yz R0;have HF:=yz F0;have ad:((w.alloc (ξ #[σ ν 0 0,J Z 0,J Z 0] 192)).alloc (ξ #[σ c L.length m,σ d S.length f,σ ν 0 0,J Z 3,J Z 0] 224)).1.size=w.1.size+2:=by simp
 clear G R0 F0 t hS hD hA hB;go_enter func156,ntmps156;go_wp2_with fail;generalize hW:(w.alloc (ξ #[σ ν 0 0,J Z 0,J Z 0] 192)).alloc (ξ #[σ c L.length m,σ d S.length f,σ ν 0 0,J Z 3,J Z 0] 224)=W at *;clear hW;refine(yx cM).mono ?_;rintro e o ⟨⟨ve,rfl⟩,z,a⟩;have HI:Hid (fM (ey L S) (L.map (·.1)) S.length [] ⟨[],3,0⟩=idR L S):=yz rfl;rw[yx HI]at z;have Q:Hid (δ w.1.size w o):=yz ((yx HB).trans ⟨a.os,a.tape,a.output,by have:=a.size;omega,fun k ac=>a.block k (by omega) (fun e=>by have:=ώ e;omega)⟩);have I:=yz ((yx HR).grown a (fun e=>by have:=ώ e;omega));have H:=yz ((yx HF).grown (by omega) a (fun e=>by have:=ώ e;omega));obtain⟨⟨vb,h1,h2⟩,hf,hs,hd,a1,a2⟩:=z;have O1:=yz h2;obtain⟨X,cv,rfl⟩:=ju h2;have H1:=yz h1;clear hf hs hd a1 a2 h2 a HB HR HF cM;have g:(idR L S).many=0->Hid (dL L S=[]/\gm L S=0/\dn L S=6):=fun h=>yz (by unfold dL gm dn;rw[if_neg (by omega),if_neg (by omega),if_pos h];exact⟨rfl,rfl,rfl⟩);have j:1<(idR L S).many->Hid (dL L S=[]/\gm L S=0/\dn L S=11):=fun h=>yz (by unfold dL gm dn;rw[if_neg (by omega),if_neg (by omega),if_neg (by omega),if_pos h];exact⟨rfl,rfl,rfl⟩);have l:(idR L S).many=1->Hid (dL L S=(idR L S).best/\gm L S=((idR L S).count:Int)/\dn L S=0):=fun h=>yz (by unfold dL gm dn;rw[if_pos h,if_pos h,if_neg (by omega),if_neg (by omega)];exact⟨rfl,rfl,rfl⟩);generalize idR L S=s at *;obtain⟨q,M,B⟩:=s;dsimp only at h1 O1 g j l;obtain⟨Y,c1,u,x,c4⟩:=h1;obtain⟨C,D,E⟩:=yx I;have N:=yx H 0;have O:=yx H 1;have P:=yx H 2;by_cases m0:B=0
 ·have b:=g m0;subst m0;clear g j l;go_wp2_with fail;clear Y c1 u x c4 C D E N O P;refine ϋ (v:=κ #[σ ν 0 0,J Z 0,J Z 6]) (Az _ _ w.1.size _ 0 6 rfl (kM (yx I) _ _ _)) rfl ⟨?_,((((yx Q).setCell (Ϗ _) _).setCell (Ϗ _) _).setCell (Ϗ _) _)⟩;rw[(yx b).1,(yx b).2.1,(yx b).2.2];exact⟨_,rfl,World.ownsRow_nil _ _ _ _⟩
 by_cases m1:1<B
 ·have b:=j m1;have ae:¬(B:Int)=0:=by omega
  have af:(1:Int)<(B:Int):=by omega
  clear g j l;go_wp2_with fail;clear Y c1 u x c4 C D E N O P;refine ϋ (v:=κ #[σ ν 0 0,J Z 0,J Z 11]) (Az _ _ w.1.size _ 0 11 rfl (kM (yx I) _ _ _)) rfl ⟨?_,((((yx Q).setCell (Ϗ _) _).setCell (Ϗ _) _).setCell (Ϗ _) _)⟩;rw[(yx b).1,(yx b).2.1,(yx b).2.2];exact⟨_,rfl,World.ownsRow_nil _ _ _ _⟩
 ·obtain rfl:B=1:=by omega
  have b:=l rfl;clear g j l m0 m1;go_wp2;refine wp_region_held_drew (S:=(fun F=>F.cell? ⟨w.1.size+1,2,ν⟩=ς (σ X q.length cv)/\F.cell? ⟨w.1.size+1,3,ν⟩=ς (J Z (M:Int)))) (by kernel_rfl) ?_ (fun r=>?_)
  ·exact⟨u,x⟩
  refine tkO 0 rfl ?_;refine tkO 1 rfl ?_;refine tkO 2 rfl ?_;refine tkO 3 rfl ?_;refine tkO 4 rfl ?_;refine tkO 5 rfl ?_;refine tkO 6 rfl ?_;refine tkO 7 rfl ?_;refine tkO 8 rfl ?_;have U:IdO o.drew w.1.size (σ ν 0 0) 0 0:=yx I;have p:kf o.drew w.1.size:=yx H;have R:δ w.1.size w o.drew:=(yx Q).drew;have T:=LK (yx O1) (Ϙ o.1.size o).drew;have d2:o.drew.cell? ⟨w.1.size+1,2,ν⟩=ς (σ X q.length cv):=u;have d3:o.drew.cell? ⟨w.1.size+1,3,ν⟩=ς (J Z (M:Int)):=x;generalize hV:o.drew=V at *;clear hV Y c1 u x c4 C D E N O P;obtain⟨C,D,E⟩:=U;have N:=p 0;have O:=p 1;have P:=p 2;refine rd1 9 rfl fun K hK=>?_;go_simp;refine hK.out _ _ ?_ (fun n=>?_)
  ·refine⟨?_,?_⟩
   ·rw[World.cell?_setCell_far _ _ _ _ (by show w.1.size≠w.1.size+1;omega),World.cell?_setCell_far _ _ _ _ (by show w.1.size≠w.1.size+1;omega),World.cell?_setCell_far _ _ _ _ (by show w.1.size≠w.1.size+1;omega)];exact d2
   ·rw[World.cell?_setCell_far _ _ _ _ (by show w.1.size≠w.1.size+1;omega),World.cell?_setCell_far _ _ _ _ (by show w.1.size≠w.1.size+1;omega),World.cell?_setCell_far _ _ _ _ (by show w.1.size≠w.1.size+1;omega)];exact d3
  clear hK K r;refine rdn ?_;clear n;go_wp2_with fail;refine ϋ (v:=κ #[σ X q.length cv,J Z (M:Int),J Z 0]) (Az _ _ w.1.size _ (M:Int) 0 rfl (kM ⟨C,D,E⟩ _ _ _)) rfl ⟨?_,(((R.setCell (Ϗ _) _).setCell (Ϗ _) _).setCell (Ϗ _) _)⟩;rw[(yx b).1,(yx b).2.1,(yx b).2.2];exact⟨_,rfl,JL (Ay (Ay (Ay T (by omega) _ _) (by omega) _ _) (by omega) _ _) (by omega)⟩
end
def ts(L:List St)(S:List D3):Bool:=bE L&&aQ S
def ei(L:List St)(S:List D3):List Int:=if 400<L.length\/400<S.length then [] else if ts L S=θ then dL L S else []
def je(L:List St)(S:List D3):Int:=if 400<L.length\/400<S.length then 0 else if ts L S=θ then gm L S else 0
def fU(L:List St)(S:List D3):Int:=if 400<L.length\/400<S.length then 2 else if ts L S=θ then dn L S else 1
theorem yw{L:List St}{S:List D3}(h:400<L.length\/400<S.length):ei L S=[]/\je L S=0/\fU L S=2:=by unfold ei je fU;rw[if_pos h,if_pos h,if_pos h];exact⟨rfl,rfl,rfl⟩
theorem vB{L:List St}{S:List D3}(h:¬(400<L.length\/400<S.length))(a:ts L S=φ):ei L S=[]/\je L S=0/\fU L S=1:=by unfold ei je fU;rw[if_neg h,if_neg h,if_neg h,a];exact⟨rfl,rfl,rfl⟩
theorem on{L:List St}{S:List D3}(h:¬(400<L.length\/400<S.length))(a:ts L S=θ):ei L S=dL L S/\je L S=gm L S/\fU L S=dn L S:=by unfold ei je fU;rw[if_neg h,if_neg h,if_neg h,if_pos a,if_pos a,if_pos a];exact⟨rfl,rfl,rfl⟩
section
def stV(s:St):μ:=κ #[.int .i64 s.1,.int .i64 s.2.1,.int .i64 s.2.2.1,.int .i64 s.2.2.2]
def th(s:St):DataW Unit:=.agg [.lit (.int .i64 s.1),.lit (.int .i64 s.2.1),.lit (.int .i64 s.2.2.1),.lit (.int .i64 s.2.2.2)]
def wO(v:μ):Option (DataW Unit×List MemPlace):=match v with
 | κ ⟨[.int .i64 a,.int .i64 b,.int .i64 c,.int .i64 d]⟩=>ς (th (a,b,c,d),[])
 | _=>ν
theorem wP(s:St):wO (stV s)=ς (th s,[]):=rfl
theorem yZ{v:μ}{s:St}{e:List MemPlace}(h:wO v=ς (th s,e)):v=stV s:=by
 unfold wO at h;split at h
 ·simp only[Option.some.injEq,Prod.mk.injEq,th,DataW.agg.injEq,List.cons.injEq,DataW.lit.injEq,Lit.int.injEq,true_and,and_true]at h;obtain⟨⟨a,b,c,d⟩,_⟩:=h;subst a b c d;rfl
 ·cases h
def xf:St:=(0,0,0,0)
def fV(L:List St)(ids:List Int)(i:Nat):St:=if ids.getD i 0≠0 then (ids.getD i 0,atV L L.length (ids.getD i 0)) else xf
def oN(D:DataW Unit)(L:List St)(ids:List Int):Prop:=∀i:Nat,i<7->Maps.has D (.int .i64 (i:Int))=decide (ids.getD i 0≠0)/\D.atKey (.int .i64 (i:Int)) (th xf)=th (fV L ids i)
def dh(w:ω)(b n:Nat)(L:List St)(ids:List Int):Prop:=∃D,w.ownsMap prog 3 wO b n D/\oN D L ids
theorem Nx(i:Nat)(h:i<7):(Lit.int .i64 (i:Int)).wf=θ:=by
 rcases(by omega:i=0\/i=1\/i=2\/i=3\/i=4\/i=5\/i=6) with rfl | rfl | rfl | rfl | rfl | rfl | rfl<;>decide
theorem LD(i:Nat)(h:i<7):keyOf prog 3 (.int .i64 (i:Int))=ς (.int .i64 (i:Int)):=Maps.keyOf_int_mk underlying3 (Nx i h)
theorem DF(w:ω):(zeroValue 130).run prog w=.ok (stV xf) w:=by kernel_rfl
variable {ids:List Int} {b:Nat} {w:ω}
theorem dh.look{n:Nat}{L:List St}(h:dh w b n L ids)(i:Nat)(a:i<7):(Instr.lookup 276 (.map (ς b)) (.int .i64 (i:Int)) φ).run prog w=.ok (stV (fV L ids i)) w:=by
 obtain⟨D,e,f⟩:=h;obtain⟨v,g,c,d⟩:=e.lookup (Maps.int_keyed underlying3) underlying276 (DF w) (wP xf) (LD i a);rw[(f i a).2]at d;rw[yZ d]at c;exact c
theorem dh.lookOk{n:Nat}{L:List St}(h:dh w b n L ids)(i:Nat)(a:i<7):(Instr.lookup 276 (.map (ς b)) (.int .i64 (i:Int)) θ).run prog w=.ok (.tuple #[stV (fV L ids i),β (decide (ids.getD i 0≠0))]) w:=by
 obtain⟨D,f,c⟩:=h;obtain⟨v,g,d,e⟩:=f.look_ok (Maps.int_keyed underlying3) underlying276 (DF w) (wP xf) (LD i a);rw[(c i a).2]at e;rw[yZ e,(c i a).1]at d;exact d
theorem dh.kept{c:ω}{n:Nat}{L:List St}{row:Option Nat}(h:dh w b n L ids)(f:w.grownBy c row)(a:ς b≠row):dh c b n L ids:=by
 obtain⟨D,d,e⟩:=h;exact⟨D,d.kept f a,e⟩
end
section
theorem LF(L:List St)(a:List Int)(i:Nat):(fV L a i).1=a.getD i 0:=by
 unfold fV;split
 ·rfl
 ·rename_i h
  have b:a.getD i 0=0:=by simpa using h
  rw[b];rfl
variable {b:Nat} {w w':ω}
theorem dh.below{n:Nat}{L:List St}{c:List Int}(h:dh w b n L c)(a:δ w.1.size w w'):dh w' b n L c:=h.kept (row:=ν) ⟨a.os,a.tape,a.output,a.size,fun k d _=>a.block k d⟩ (by simp)
def uC(w:ω)(b:Nat)(v0 v1 v2:μ):Prop:=w.cell? ⟨b,0,ν⟩=ς v0/\w.cell? ⟨b,1,ν⟩=ς v1/\w.cell? ⟨b,2,ν⟩=ς v2
theorem uC.kept{c d e:μ}(h:uC w b c d e)(a:δ w.1.size w w'):uC w' b c d e:=⟨bY h.1 a,bY h.2.1 a,bY h.2.2 a⟩
theorem Ly(L:List St)(a:List Int)(m:Nat)(o p:Option η)(u r s b N:Nat)(w:ω)(hm:m<=6)(Y:dh w b N L a):
  χ prog 219 #[κ #[σ o u r,σ p m s,.map (ς b)]] w fun e w'=>e=ρ (σ (ς ⟨w.1.size+1,0,ν⟩) m m)/\cu w' 2 (w.1.size+1) (m*1) (vW a)/\δ w.1.size w w':=by
 have K:=an w (ξ #[σ o u r,σ p m s,.map (ς b)] 278);have U:uC (w.alloc (ξ #[σ o u r,σ p m s,.map (ς b)] 278)) w.1.size (σ o u r) (σ p m s) (.map (ς b)):=by refine⟨?_,?_,?_⟩<;>simp
 have n:=yz (Y.below K);have A:=yz U;have x:=yz K;have I:(w.alloc (ξ #[σ o u r,σ p m s,.map (ς b)] 278)).1.size=w.1.size+1:=by simp
 clear K U Y;obtain⟨i0,hi,R,S,T⟩:=info_parts nB;go_enter func219,ntmps219;go_wp2_with (at_make;refine wpList_make_full _ rfl _ _ 128 rfl (w.1.size+1) 2 i0 (J Z 0) 1 underlying128 hi R S .i64 .i64 _ _ m rfl rfl rfl rfl (by rw[T];omega) (by unfold maxLen;omega) (by simp) ?_;intro w0 f c)
 have g:∀j,j<m*1->(madeCells (Value.int .i64 0).cells (m*1)).toList[j]? = ς (J Z 0):=by
  intro j G;have e:(Value.int .i64 0).cells = #[J Z 0]:=rfl;rw[e,toList_madeCells_one];simp at G;simp[G]
 have V:Hid (cu w0 2 (w.1.size+1) (m*1) (fun j=>if j<0 then vW a j else J Z 0)):=yz (by
  have h:=cu.made (v:=.nilIface) f g;rw[I]at h
  exact h.congr (fun j G=>by rw[if_neg (by omega)]))
 have l:=mb c;have z:=aB x l;have E:=yz ((yx n).below l);have B:=ap A l;clear f c g l x n A I;go_loopw [11] (fun i wr=>∃k:Nat,k<=m/\i=J Z k/\Hid (cu wr 2 (w.1.size+1) (m*1) (fun j=>if j<k then vW a j else J Z 0))/\Hid (δ w.1.size w wr)/\Hid (dh wr b N L a)/\Hid (uC wr w.1.size (σ o u r) (σ p m s) (.map (ς b)))) (fun i _=>m-(ύ i).toNat)
 case atStart=>exact⟨0,by omega,rfl,V,z,E,B⟩
 case round=>
  clear V z E B;obtain⟨k,hk,rfl,y,x,n,A⟩:=hrel;by_cases ad:k<m
  ·have hr:=(yx n).look k (by omega);have C:Hid (vW a k=J Z (fV L a k).1):=yz (by rw[LF];rfl);generalize fV L a k=q at *;obtain⟨d,q2,q3,q4⟩:=q;unfold stV at hr;dsimp only at hr C;have ab:(k:Int)<(m:Int):=by omega
   have aa:∀W:ω,(Instr.field 130 (κ #[J Z d,J Z q2,J Z q3,J Z q4]) 0).run prog W=.ok (J Z d) W:=fun W=>by kernel_rfl
   have e0:=(yx y).cell (j:=k) (by omega);have f0:=(yx y).free k;rw[if_neg (by omega)]at e0
   have F:b≠w.1.size+1:=fun e=>by
    obtain⟨D,⟨es,cl,hh,_⟩,_⟩:=yx n;obtain⟨ac,hc,_⟩:=yx y;rw[e,hc]at hh;cases hh
   have Q:Hid (cu (wr.setCell ⟨w.1.size+1,k,ν⟩ (J Z d)) 2 (w.1.size+1) (m*1) (fun j=>if j<k+1 then vW a j else J Z 0)):=yz (((yx y).set k (J Z d)).congr (fun j G=>by
    by_cases h:j=k
    ·rw[if_pos h,if_pos (by omega),h,yx C]
    ·rw[if_neg h];by_cases X:j<k
     ·rw[if_pos X,if_pos (by omega)]
     ·rw[if_neg X,if_neg (by omega)]))
   have M:=yz ((yx x).setCell (Nat.le_succ _) (J Z d):δ w.1.size w (wr.setCell ⟨w.1.size+1,k,ν⟩ (J Z d)));have P:Hid (dh (wr.setCell ⟨w.1.size+1,k,ν⟩ (J Z d)) b N L a):=yz ((yx n).kept (row:=ς (w.1.size+1)) (fN (jX wr _) k (J Z d)) (fun e=>F (ώ e)));obtain⟨c0,c1,c2⟩:=yx A
   have O:Hid (uC (wr.setCell ⟨w.1.size+1,k,ν⟩ (J Z d)) w.1.size (σ o u r) (σ p m s) (.map (ς b))):=yz (by
    have t:ς w.1.size≠ς (w.1.size+1):=fun e=>by have:=ώ e;omega
    exact⟨fE c0 (fN (jX wr _) k (J Z d)) t,fE c1 (fN (jX wr _) k (J Z d)) t,fE c2 (fN (jX wr _) k (J Z d)) t⟩)
   clear y x n A F;go_wp2;go_roundw
   case rel=>first | exact⟨k+1,by omega,by go_num,Q,M,P,O⟩ | trace_state
   case measure=>simp[ύ];omega
  ·have H:k=m:=by omega
   subst H;go_wp2;go_ret;exact⟨rfl,(yx y).congr (fun j G=>if_pos (by omega)),yx x⟩
end
theorem Gw(L:List St)(S:List D3)(d:List Int)(n:Nat)(ar O:Option η)(nl cr F b N:Nat)(w:ω)(hm:S.length<=6)(hn:n<=S.length)(hD:bu w O S S.length)(hN:dh w b N L d):
  χ prog 220 #[κ #[σ ar nl cr,σ O S.length F,.map (ς b)],J Z (n:Int)] w fun e o=>(∃v,e=ρ v/\o.ownsRow (w.1.size+1) 281 7 v (ay L S d n).length (eb (ay L S d n)))/\δ w.1.size w o:=by
 obtain⟨i0,am,aG,aH,aI⟩:=info_parts vE;have aP:1000<=maxLen:=by decide +kernel
 have B0:=an w (ξ #[σ ar nl cr,σ O S.length F,.map (ς b)] 278);have C0:uC (w.alloc (ξ #[σ ar nl cr,σ O S.length F,.map (ς b)] 278)) w.1.size (σ ar nl cr) (σ O S.length F) (.map (ς b)):=by refine⟨?_,?_,?_⟩<;>simp
 have aD:=yz (ix L S d);have au:=yz (kz L S d);have aC:Hid (∀i,dz L S d i=(vA S i,(d.getD i 0,atV L L.length (d.getD i 0)))):=yz (fun i=>rfl);have aw:Hid (∀i,d.getD i 0≠0->fV L d i=(d.getD i 0,atV L L.length (d.getD i 0))):=yz (fun i h=>by unfold fV;rw[if_pos h]);have ax:Hid (∀i,d.getD i 0=0->fV L d i=(0,0,0,0)):=yz (fun i h=>by unfold fV;rw[if_neg (by simpa using h)];rfl);have HD:=yz (hD.kept B0);have av:=yz (hN.below B0);have af:=yz C0;have ao:=yz B0;have aR:(w.alloc (ξ #[σ ar nl cr,σ O S.length F,.map (ς b)] 278)).1.size=w.1.size+1:=by simp
 clear B0 C0 hD hN;generalize aQ:S.length=m at *;go_enter func220,ntmps220;go_wp2_with fail;generalize hW:w.alloc (ξ #[σ ar nl cr,σ O m F,.map (ς b)] 278)=W at *;clear hW;go_loopw [5,10] (fun v kk wr=>∃i:Nat,i<=n/\kk=J Z i/\Hid (wr.ownsRow (w.1.size+1) 281 7 v (ay L S d i).length (eb (ay L S d i)))/\Hid (δ W.1.size W wr)) (fun _ kk _=>n-(ύ kk).toNat)
 case atStart=>exact⟨0,by omega,rfl,yz (World.ownsRow_nil _ _ _ _),yz (Ϙ _ _)⟩
 case round=>
  obtain⟨i,hi,rfl,HO,I⟩:=hrel;by_cases aN:i<n
  ·have aJ:(i:Int)<(n:Int):=by omega
   have T:=((yx av).below (yx I)).lookOk i (by omega);obtain⟨c0,c1,c2⟩:=(yx af).kept (yx I);have t:=yz (yx aD i);have ah:=yz (yx aC i);have Q:=yx aw i;have R:=yx ax i;have aO:=yx au i;generalize d.getD i 0=r at *;by_cases C:r=0
   ·subst C;rw[R rfl]at T;unfold stV at T;simp only[ne_eq,not_true_eq_false,decide_false]at T;rw[if_neg (by simp),List.append_nil]at t;have a:=an wr (ξ #[J Z 0,J Z 0,J Z 0,J Z 0] 130);have az:Hid ((wr.alloc (ξ #[J Z 0,J Z 0,J Z 0,J Z 0] 130)).ownsRow (w.1.size+1) 281 7 u5 (ay L S d (i+1)).length (eb (ay L S d (i+1)))):=yz (by rw[yx t];exact kT (yx HO) a);have ap:=aB I a;clear a HO I Q R;go_wp2;go_roundw
    case rel=>first | exact⟨i+1,by omega,by go_num,az,ap⟩ | trace_state
    case measure=>simp[ύ]<;>omega
   ·have aj:decide (r≠0)=θ:=by simp[C]
    rw[Q C,aj]at T;rw[if_pos C,yx ah]at t;clear ah Q R;generalize atV L L.length r=q at *;obtain⟨q1,q2,q3⟩:=q;unfold stV at T;dsimp only at T;have HU:Hid (∀z,u5.ownBlock=ς z->w.1.size+1<=z/\z<wr.1.size):=yz (fun z e=>(yx HO).lt z e);have a:=an wr (ξ #[J Z r,J Z q1,J Z q2,J Z q3] 130);have M:=yz (kT (yx HO) a);have g:=aB I a;have N2:=yz (ji wr (r,q1,q2,q3) 130);clear a HO I;go_wp2_with fail;clear c0 c1 c2 T;generalize wr.alloc (ξ #[J Z r,J Z q1,J Z q2,J Z q3] 130)=p at M g N2 ⊢;generalize wr.1.size=D at *;rcases yx HD with h | ⟨x,E,rfl,aE,ai⟩
    ·omega
    have aF:=(ai i (by omega)).kept aE (yx g);obtain⟨_,x1,_⟩:=(yx af).kept (yx g);clear ai;generalize vA S i=sv at *;obtain⟨v1,v2,v3⟩:=sv;obtain⟨c0,c1,c2⟩:=aF;obtain⟨d0,d1,d2,d3⟩:=yx N2;simp only[Nat.zero_add]at d0 d1 d2 d3;simp only at c0 c1 c2;have aM:(i:Int)<(m:Int):=by omega
    refine wp_region_held_drew (S:=(fun o=>o.cell? ⟨w.1.size,1,ν⟩=ς (σ (ς ⟨x,E,ν⟩) m F)/\(o.cell? ⟨x,E+i*3,ν⟩=ς (J Z v1)/\o.cell? ⟨x,E+i*3+1,ν⟩=ς (J Z v2)/\o.cell? ⟨x,E+i*3+2,ν⟩=ς (J Z v3))/\o.cell? ⟨D,0,ν⟩=ς (J Z r)/\o.cell? ⟨D,1,ν⟩=ς (J Z q1)/\o.cell? ⟨D,2,ν⟩=ς (J Z q2)/\o.cell? ⟨D,3,ν⟩=ς (J Z q3))) (by kernel_rfl) ?_ (fun P=>?_)
    ·exact⟨x1,⟨c0,c1,c2⟩,d0,d1,d2,d3⟩
    refine tkO 0 rfl ?_;refine tkO 1 rfl ?_;refine tkO 2 rfl ?_;refine tkO 3 rfl ?_;refine tkO 4 rfl ?_;refine tkO 5 rfl ?_;refine tkO 6 rfl ?_;refine tkO 7 rfl ?_;have HK:Hid (∀W':ω,δ p.1.size p W'->(W'.cell? ⟨w.1.size,1,ν⟩=ς (σ (ς ⟨x,E,ν⟩) m F)/\(W'.cell? ⟨x,E+i*3,ν⟩=ς (J Z v1)/\W'.cell? ⟨x,E+i*3+1,ν⟩=ς (J Z v2)/\W'.cell? ⟨x,E+i*3+2,ν⟩=ς (J Z v3))/\W'.cell? ⟨D,0,ν⟩=ς (J Z r)/\W'.cell? ⟨D,1,ν⟩=ς (J Z q1)/\W'.cell? ⟨D,2,ν⟩=ς (J Z q2)/\W'.cell? ⟨D,3,ν⟩=ς (J Z q3))):=yz (fun W' h=>⟨bY x1 h,⟨bY c0 h,bY c1 h,bY c2 h⟩,bY d0 h,bY d1 h,bY d2 h,bY d3 h⟩);have ag:Hid (p.drew.ownsRow (w.1.size+1) 281 7 u5 (ay L S d i).length (eb (ay L S d i))):=M;have ae:=yz ((Ϙ p.1.size p).drew);clear c0 c1 c2 d0 d1 d2 d3 x1 N2;refine rd1 8 rfl fun K G=>?_;go_simp;have Z5:=an p.drew (ξ #[J Z v1,J Z v2,J Z v3,J Z r,J Z q1,J Z q2,J Z q3] 281);have H:=kT (yx ag) Z5;have s:=aB ae Z5;have aK:p.drew.1.size=p.1.size:=rfl;have aL:W.1.size<=p.1.size:=(yx g).size;clear Z5 ag ae;refine G.out _ _ (yx HK _ (yx s)) (fun y=>?_);clear G K P;refine rd1 9 rfl fun K G=>?_;refine rf rfl _ _ 261 rfl (w.1.size+1) 281 i0 (κ #[J Z 0,J Z 0,J Z 0,J Z 0,J Z 0,J Z 0,J Z 0]) 7 56 underlying261 am aG aH aI rfl (by decide) _ _ _ rfl H ⟨p.drew.1.size,0,ν⟩ 1 1 (eb [((v1,v2,v3),(r,q1,q2,q3))]) rfl rfl ?d2 (fun u hu=>sG hu) ?d3 ?d4 ?d5 ?_
    case d2=>first | exact fun j u h=>h | exact lI _ _ _
    case d3=>omega
    case d4=>omega
    case d5=>first | omega | (simp;omega)
    intro v7 V7 l c;have f:∀z,z<w.1.size+1\/D<=z->ς z≠u5.ownBlock:=fun z hz e=>by have:=yx HU z e.symm;omega
    have aq:Hid (δ W.1.size W V7):=yz ((ak (yx g) (yx s)).trans ⟨c.os,c.tape,c.output,c.size,fun z hz=>c.block z (by simp;omega) (f z (.inl (by omega)))⟩);have aA:Hid (V7.ownsRow (w.1.size+1) 281 7 v7 (ay L S d (i+1)).length (eb (ay L S d (i+1)))):=yz (by rw[yx t,uX,ϕ];exact l);obtain⟨k1,⟨k2,k3,k4⟩,k5,k6,k7,k8⟩:=yx HK _ (yx s);have k:x<w.1.size+1:=by omega
    have U:=dN k1 c (f _ (.inl (show w.1.size<w.1.size+1 by omega)));have V:=dN k2 c (f _ (.inl k));have X:=dN k3 c (f _ (.inl k));have Y:=dN k4 c (f _ (.inl k));have aa:=dN k5 c (f _ (.inr (Ϗ _)));have ab:=dN k6 c (f _ (.inr (Ϗ _)));have ac:=dN k7 c (f _ (.inr (Ϗ _)));have ad:=dN k8 c (f _ (.inr (Ϗ _)));clear l c H k1 k2 k3 k4 k5 k6 k7 k8 f s g M;refine G.out _ _ ⟨U,⟨V,X,Y⟩,aa,ab,ac,ad⟩ (fun A=>?_);clear G K y;refine rd1 10 rfl fun K G=>?_;go_simp;refine G.out _ _ ⟨U,⟨V,X,Y⟩,aa,ab,ac,ad⟩ (fun B=>?_);clear G K A;refine rdn ?_;clear U V X Y aa ab ac ad B HK;go_wp2;go_roundw
    case rel=>first | exact⟨i+1,by omega,by go_num,aA,aq⟩ | trace_state
    case measure=>simp[ύ]<;>omega
  ·have al:i=n:=by omega
   subst al;go_wp2;go_ret;exact⟨⟨_,rfl,yx HO⟩,ak (yx ao) (yx I)⟩
end Go.Proofs.YtnnhjegapofopaaGreatDoor
