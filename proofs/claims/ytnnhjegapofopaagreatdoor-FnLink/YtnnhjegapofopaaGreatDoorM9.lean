import Derived.Defers
import Derived.Recover
import Derived.Test.YtnnhjegapofopaaGreatDoorM8
import Derived.Test.YtnnhjegapofopaaGreatDoorM5
namespace Go.Proofs.YtnnhjegapofopaaGreatDoor
set_option linter.all false
set_option maxRecDepth 100000
set_option maxHeartbeats 8000000
open Go.RowKit Go.Sort Go.Proofs.Tryz
open Go.Value renaming int -> J,slice -> σ,string -> τ,agg -> κ,pointer -> π,bool -> β
open Go.Obj renaming cells -> ξ
open Go.Ending renaming returned -> ρ
open Go renaming World -> ω,Value -> μ,Calls -> χ,Addr -> η,cell_regrown -> ϊ,bodyPost_ret -> ϋ,below_regrown -> ό
open Go.RowKit renaming Below -> δ,intOf -> ύ
open Option renaming none -> ν,some -> ς
open Bool renaming true -> θ,false -> φ,and_eq_true -> Ϗ
open Nat renaming le_refl -> ώ
open List renaming getD_eq_getElem?_getD -> ϐ,getElem?_eq_getElem -> ϑ
open Go.RowKit.Below renaming refl -> ϒ
open Go.IntKind renaming i64 -> Z
section
def eQ(t:T4)(s:Sg):Bool:=dl s.1 (apD t.1 t.2.1 t.2.2.1 t.2.2.2 s.2.2)
def eC(A:List Sg)(t:T4):Bool:=A.all (eQ t)
theorem IY{A:List Sg}{t:T4}(h:∀i,i<A.length->eQ t (sgA A i)=θ):eC A t=θ:=by
 unfold eC;rw[<-lZ,List.all_eq_true];exact fun i a=>h i (List.mem_range.1 a)
variable {ids:List Int} {i k:Nat}
theorem Lq{A:List Sg}{t:T4}(a:i<A.length)(h:eQ t (sgA A i)=φ):eC A t=φ:=by
 unfold eC;rw[<-lZ,List.all_eq_false];exact⟨i,List.mem_range.2 a,by rw[h];simp⟩
def gL(A:List Sg)(T:List T4):T4×Int:=match T.find? (eC A) with | some t=>(t,0) | none=>((0,0,0,0),6)
theorem EV{T:List T4}(a:k<T.length):T[k]? = ς (tA T k):=by unfold tA;rw[ϐ,ϑ a];rfl
theorem BG{A:List Sg}{T:List T4}(a:k<T.length)(h:∀j,j<k->eC A (tA T j)=φ)(b:eC A (tA T k)=θ):gL A T=(tA T k,0):=by
 unfold gL
 have:T.find? (eC A)=ς (tA T k):=by
  rw[List.find?_eq_some_iff_getElem];refine⟨b,k,a,?_,fun j c=>?_⟩
  ·have:=EV a;rw[ϑ a]at this;exact Option.some.inj this
  ·have e:=EV (T:=T) (k:=j) (by omega);rw[ϑ (by omega)]at e;rw[Option.some.inj e,h j c];rfl
 rw[this]
theorem uT{A:List Sg}{T:List T4}(h:∀j,j<T.length->eC A (tA T j)=φ):gL A T=((0,0,0,0),6):=by
 unfold gL
 have:T.find? (eC A)=ν:=by
  rw[List.find?_eq_none];intro x b;obtain⟨j,a,rfl⟩:=List.getElem_of_mem b;have e:=EV (T:=T) (k:=j) a;rw[ϑ a]at e;rw[Option.some.inj e,h j a];simp
 rw[this]
def lE(L:List St)(S:List D3)(ids:List Int):T4×Int:=
 if 400<L.length\/400<S.length\/400<ids.length then ((0,0,0,0),2)
 else if cJ L S ids=θ then (if (ay L S ids ids.length).length<2 then ((0,0,0,0),10) else gL (ay L S ids ids.length) (aE 625))
 else ((0,0,0,0),1)
theorem Jd{L:List St}{S:List D3}(h:400<L.length\/400<S.length\/400<ids.length):lE L S ids=((0,0,0,0),2):=by unfold lE;rw[if_pos h]
theorem Jc{L:List St}{S:List D3}(h:¬(400<L.length\/400<S.length\/400<ids.length))(a:cJ L S ids=φ):lE L S ids=((0,0,0,0),1):=by unfold lE;rw[if_neg h,a];rfl
theorem Lu{L:List St}{S:List D3}(h:¬(400<L.length\/400<S.length\/400<ids.length))(a:cJ L S ids=θ)(b:(ay L S ids ids.length).length<2):lE L S ids=((0,0,0,0),10):=by unfold lE;rw[if_neg h,if_pos a,if_pos b]
theorem GL{L:List St}{S:List D3}(h:¬(400<L.length\/400<S.length\/400<ids.length))(a:cJ L S ids=θ)(b:¬(ay L S ids ids.length).length<2):lE L S ids=gL (ay L S ids ids.length) (aE 625):=by unfold lE;rw[if_neg h,if_pos a,if_neg b]
theorem iw{L:List St}{S:List D3}(h:cJ L S ids=θ):bE L=θ/\aQ S=θ/\ids.length=S.length/\fZ (ay L S ids ids.length) (ay L S ids ids.length).length=θ:=by
 unfold cJ at h;simp only[Ϗ,decide_eq_true_eq]at h;exact⟨h.1.1.1,h.1.1.2,h.1.2,h.2⟩
theorem If{L:List St}{S:List D3}{n:Nat}(c:i<(ay L S ids n).length):∃j,j<n/\ids.getD j 0≠0/\sgA (ay L S ids n) i=dz L S ids j:=by
 have a:sgA (ay L S ids n) i∈ay L S ids n:=by
  unfold sgA;rw[ϐ,ϑ c];exact List.getElem_mem c
 generalize sgA (ay L S ids n) i=s at a ⊢;unfold ay at a;rw[List.mem_map]at a;obtain⟨j,b,rfl⟩:=a;rw[List.mem_filter]at b;exact⟨j,List.mem_range.1 b.1,of_decide_eq_true b.2,rfl⟩
theorem CZ{L:List St}{S:List D3}(h:cJ L S ids=θ){i:Nat}(d:i<(ay L S ids ids.length).length):aX (sgA (ay L S ids ids.length) i).2.2.1 (sgA (ay L S ids ids.length) i).2.2.2.1 (sgA (ay L S ids ids.length) i).2.2.2.2=θ:=by
 obtain⟨f,k,l,b⟩:=iw h;unfold fZ at b;have a:=List.all_eq_true.1 b i (List.mem_range.2 d);rw[Ϗ]at a;obtain⟨j,m,g,e⟩:=If d;rw[e]at a ⊢;exact Bh f (by have c:=a.1;rw[Bool.not_eq_true']at c;exact c)
theorem Ew{L:List St}{S:List D3}(h:cJ L S ids=θ){j:Nat}(f:j<ids.length)(c:ids.getD j 0≠0):aX (atV L L.length (ids.getD j 0)).1 (atV L L.length (ids.getD j 0)).2.1 (atV L L.length (ids.getD j 0)).2.2=θ/\lV (vA S j)=θ:=by
 obtain⟨d,e,g,a⟩:=iw h;rw[<-vR]at a;unfold jz at a;have b:=List.all_eq_true.1 a j (List.mem_range.2 f);rw[decide_eq_false c,Bool.false_or,Ϗ]at b;exact⟨Bh d (by simpa using b.1),nK ((bN e).2 j (by omega))⟩
def jR(L:List St)(S:List D3)(ids:List Int)(t:T4)(n:Nat):Bool:=(List.range n).all fun j=>decide (ids.getD j 0=0) || eQ t (dz L S ids j)
theorem Ir(L:List St)(S:List D3)(a:List Int)(t:T4)(n:Nat):jR L S a t n=eC (ay L S a n) t:=(pG L S a (eQ t) n).symm
theorem Fe{L:List St}{S:List D3}{t:T4}{n j:Nat}(a:j<n)(h:(decide (ids.getD j 0=0) || eQ t (dz L S ids j))=φ):jR L S ids t n=φ:=by
 unfold jR;rw[List.all_eq_false];exact⟨j,List.mem_range.2 a,by rw[h];simp⟩
theorem Dy{L:List St}{S:List D3}{t:T4}{n:Nat}(h:∀j,j<n->(decide (ids.getD j 0=0) || eQ t (dz L S ids j))=θ):jR L S ids t n=θ:=by
 unfold jR;rw[List.all_eq_true];exact fun j a=>h j (List.mem_range.1 a)
theorem AG(L:List St)(S:List D3)(a:List Int)(k:Nat):(ay L S a (k+1)).length=(ay L S a k).length+if a.getD k 0≠0 then 1 else 0:=by
 rw[ix,List.length_append];split<;>rfl
theorem nR{m:Nat}(b:k<(aE m).length):aG (tA (aE m) k).1 (tA (aE m) k).2.1 (tA (aE m) k).2.2.1 (tA (aE m) k).2.2.2=θ:=by
 have a:tA (aE m) k∈aE m:=by unfold tA;rw[ϐ,ϑ b];exact List.getElem_mem b
 generalize tA (aE m) k=t at a ⊢;unfold aE at a;exact(List.mem_filter.1 a).2
theorem wY:0<(aE 625).length:=by
 have h:(tOf 624).1=2:=by decide +kernel
 have a:sK (tOf 563)=θ:=by decide +kernel
 have b:tOf 563∈aE 625:=by
  unfold aE;rw[List.mem_filter];exact⟨List.mem_map.2 ⟨563,List.mem_range.2 (by omega),rfl⟩,a⟩
 exact List.length_pos_of_mem b
end
theorem zN(A:List Sg)(n:Nat)(t:T4)(a:Option η)(c:Nat)(w:ω)(hl:A.length=n)(hn:n<=1048576)(ht:aG t.1 t.2.1 t.2.2.1 t.2.2.2=θ)(F:∀i,i<n->aX (sgA A i).2.2.1 (sgA A i).2.2.2.1 (sgA A i).2.2.2.2=θ)(hS:gH w a A n):
  χ prog 204 #[κ #[J Z t.1,J Z t.2.1,J Z t.2.2.1,J Z t.2.2.2],σ a n c] w fun e w'=>e=ρ (β (eC A t))/\δ w.1.size w w':=by
 have U:Hid (∀i,i<n->eQ t (sgA A i)=φ->eC A t=φ):=yz (fun i hi h=>Lq (by omega) h);have z:Hid ((∀i,i<n->eQ t (sgA A i)=θ)->eC A t=θ):=yz (fun h=>IY (by rw[hl];exact h));have Y:=yz F;have HT:=yz ht;have v:Hid (∀s,eQ t s=dl s.1 (apD t.1 t.2.1 t.2.2.1 t.2.2.2 s.2.2)):=yz (fun s=>rfl);clear hl F ht;generalize eC A t=R at *;generalize eQ t=br at *;obtain⟨I,K,L,M⟩:=t;simp only at HT v ⊢;have V0:=yz (be w I K L M 24);have T:=yz (an w (ξ #[J Z I,J Z K,J Z L,J Z M] 24));rcases hS with rfl | ⟨b,o,rfl,hb,hc⟩
 ·have HY:=yz (yx z (fun i hi=>absurd hi (Nat.not_lt_zero _)));go_enter func204,ntmps204;go_wp2;refine wp_loop_rounds 1 ?_;rw[rounds_succ];go_wp2;go_ret;exact⟨by rw[yx HY];rfl,yx T⟩
 have HC:=yz hc;clear hc;go_enter func204,ntmps204;go_wp2;go_loopw [9] (fun i wr=>∃k:Nat,k<=n/\i=J Z k/\Hid (∀j,j<k->br (sgA A j)=θ)/\Hid (δ w.1.size w wr)/\Hid (aR wr w.1.size I K L M)) (fun i _=>n-(ύ i).toNat)
 case atStart=>exact⟨0,by omega,rfl,yz (fun j hj=>absurd hj (Nat.not_lt_zero _)),T,V0⟩
 case round=>
  clear T V0;obtain⟨k,hk,rfl,HF,N,HV⟩:=hrel;by_cases u:k<n
  ·have aa:(k:Int)<(n:Int):=by omega
   have g:=yx Y k u;have p:=yz (yx v (sgA A k));have x:=yz (yx U k u);obtain⟨s,hs⟩:∃t,sgA A k=t:=⟨_,rfl⟩
   have G:=((yx HC) k u).kept (yx N);rw[hs]at G g p x;have X:=yz hs;clear hs;have cA:=yz (fun W=>sB I K L M s.2.2 W (yx HT) g);clear g;have d:=an wr (ξ #[J Z s.1.1,J Z s.1.2.1,J Z s.1.2.2,J Z s.2.1,J Z s.2.2.1,J Z s.2.2.2.1,J Z s.2.2.2.2] 281);have T1:=iS wr s 281;have m:=aB N d;have f:=yz ((yx HV).kept (yx HV).lt d);clear d N HV;generalize apD I K L M s.2.2=q at *;obtain⟨P,Q,S⟩:=q;obtain⟨⟨B,C,D⟩,b4,b5,b6,b7⟩:=s;have cS:Hid (∀W:ω,χ prog 150 #[κ #[J Z B,J Z C,J Z D],κ #[J Z P,J Z Q,J Z S]] W fun e w'=>e=ρ (β (dl (B,C,D) (P,Q,S)))/\δ W.1.size W w'):=yz (fun W=>kW B C D P Q S W);simp only at p cA T1 m f;generalize dl (B,C,D) (P,Q,S)=sm at *;obtain⟨c0,c1,c2,c3,c4,c5,c6⟩:=G;simp only at c0 c1 c2 c3 c4 c5 c6;go_wp2_with fail;clear c0 c1 c2 c3 c4 c5 c6;generalize wr.alloc (ξ #[J Z B,J Z C,J Z D,J Z b4,J Z b5,J Z b6,J Z b7] 281)=W4 at T1 m f ⊢;generalize wr.1.size=tb at *;obtain⟨x0,x1,x2,x3,x4,x5,x6⟩:=T1;simp only[Nat.zero_add]at x0 x1 x2 x3 x4 x5 x6;obtain⟨y0,y1,y2,y3⟩:=yx f;have r0:=ϊ x0;have r1:=ϊ x1;have r2:=ϊ x2;have r4:=ϊ x4;have r5:=ϊ x5;have r6:=ϊ x6;have s0:=ϊ y0;have s1:=ϊ y1;have s2:=ϊ y2;have s3:=ϊ y3;clear x0 x1 x2 x3 x4 x5 x6 y0 y1 y2 y3;refine de ?_;repeat (go_big_quiet_step (with_reducible first | exact aH cA | exact aH cS))
   refine di fun dq H=>?_;have O:=ό W4 dq H;have r:=aB m O;have y:=yz ((yx f).kept (yx f).lt O);generalize grow (redrawn W4 dq) H=W5 at O r y ⊢;clear O r0 r1 r2 r4 r5 r6 s0 s1 s2 s3 cA cS m f;cases sm
   ·have HN:=yz (yx x (yx p));go_wp2;go_ret;exact⟨by rw[yx HN];rfl,yx r⟩
   ·have V:Hid (br (sgA A k)=θ):=yz (by rw[yx X];exact yx p);go_wp2;go_roundw
    case rel=>exact⟨k+1,by omega,by go_num,yz (fun l hl=>by
     by_cases e:l=k
     ·rw[e];exact yx V
     ·exact yx HF l (by omega)),r,y⟩
    case measure=>simp[ύ];omega
  ·have E:k=n:=by omega
   subst E;have HY:=yz (yx z (yx HF));go_wp2;go_ret;exact⟨by rw[yx HY];rfl,yx N⟩
def outV(r:T4×Int):μ:=κ #[J Z r.1.1,J Z r.1.2.1,J Z r.1.2.2.1,J Z r.1.2.2.2,J Z r.2]
theorem gd{w c:ω}{b:Nat}(h:δ w.1.size w c)(a:w.1.size<=b)(x y z u v:μ):δ w.1.size w (((((c.setCell ⟨b,0,ν⟩ x).setCell ⟨b,1,ν⟩ y).setCell ⟨b,2,ν⟩ z).setCell ⟨b,3,ν⟩ u).setCell ⟨b,4,ν⟩ v):=((((h.setCell a _).setCell a _).setCell a _).setCell a _).setCell a _
theorem tE(L:List St)(S:List D3)(d:List Int)(ar br ir:Option η)(cr dr er:Nat)(p:η)(w:ω)(hn:L.length<=1048576)(q:L.length<=cr)(X:cr<=9223372036854775807)(aL:S.length<=1048576)(r:S.length<=dr)(au:dr<=9223372036854775807)(aM:d.length<=1048576)(hS:aO w ar L L.length)(hD:bu w br S S.length)(hI:jx w ir d d.length)(hE:bQ p w):
  χ prog 192 #[σ ar L.length cr,σ br S.length dr,σ ir d.length er] w fun e u=>e=ρ (outV (lE L S d))/\δ w.1.size w u:=by
 have cN:=yz (fun (W:ω) V E h3 h4=>xq L S d ar br ir cr dr er p W hn q X aL r au aM V E h3 h4)
 have cO:Hid (cJ L S d=θ->∀W:ω,aO W ar L L.length->bu W br S S.length->jx W ir d d.length->bQ p W->χ prog 202 #[σ ar L.length cr,σ br S.length dr,σ ir d.length er] W fun e u=>(∃v,e=ρ v/\u.ownsRow W.1.size 281 7 v (ay L S d d.length).length (eb (ay L S d d.length)))/\δ W.1.size W u):=yz (fun h W V E h3 h4=>by
  obtain⟨U,D,g3,_⟩:=iw h
  exact qU L S d d.length ar br ir cr dr er p W U hn q X (bN D).1 g3 V E h3 h4)
 have aj:Hid (cJ L S d=θ->∀i,i<(ay L S d d.length).length->aX (sgA (ay L S d d.length) i).2.2.1 (sgA (ay L S d d.length) i).2.2.2.1 (sgA (ay L S d d.length) i).2.2.2.2=θ):=yz (fun h i hi=>CZ h hi)
 have ad:Hid (cJ L S d=θ->(ay L S d d.length).length<=6):=yz (fun h=>by
  obtain⟨U,D,g3,_⟩:=iw h;have:=kz L S d d.length;have:=(bN D).1
  omega)
 have H1:Hid (400<L.length\/400<S.length\/400<d.length->lE L S d=((0,0,0,0),2)):=yz Jd;have H2:Hid (¬(400<L.length\/400<S.length\/400<d.length)->cJ L S d=φ->lE L S d=((0,0,0,0),1)):=yz Jc;have H3:Hid (¬(400<L.length\/400<S.length\/400<d.length)->cJ L S d=θ->(ay L S d d.length).length<2->lE L S d=((0,0,0,0),10)):=yz Lu;have H4:Hid (¬(400<L.length\/400<S.length\/400<d.length)->cJ L S d=θ->¬(ay L S d d.length).length<2->lE L S d=gL (ay L S d d.length) (aE 625)):=yz GL;have HS:=yz hS;have HD:=yz hD;have HI:=yz hI;have HE:=yz hE;clear hS hD hI hE q X r au;generalize lE L S d=R at *;generalize cJ L S d=nb at *;generalize ay L S d d.length=A at *;generalize S.length=m at *;generalize d.length=k at *;generalize L.length=n at *;have R0:=aq w [J Z 0,J Z 0,J Z 0,J Z 0,J Z 0] 132;have F:=an w (ξ #[J Z 0,J Z 0,J Z 0,J Z 0,J Z 0] 132);by_cases o:400<n\/400<m\/400<k
 ·obtain rfl:=yx H1 o;have h':400<n\/(¬400<n/\400<m)\/(¬400<n/\¬400<m/\400<k):=by omega
  rcases h' with h | ⟨h,V⟩ | ⟨h,V,E⟩
  ·have U:decide ((400:Int)<(n:Int))=θ:=by simp;omega
   have D:(400:Int)<(n:Int):=by omega
   go_enter func192,ntmps192;go_wp2;exact ϋ (v:=κ #[J Z 0,J Z 0,J Z 0,J Z 0,J Z 2]) (by simp[results,results192,go_sem]) rfl ⟨rfl,an _ _⟩
  ·have U:decide ((400:Int)<(n:Int))=φ:=by simp;omega
   have D:¬(400:Int)<(n:Int):=by omega
   have g3:decide ((400:Int)<(m:Int))=θ:=by simp;omega
   have g4:(400:Int)<(m:Int):=by omega
   go_enter func192,ntmps192;go_wp2;exact ϋ (v:=κ #[J Z 0,J Z 0,J Z 0,J Z 0,J Z 2]) (by simp[results,results192,go_sem]) rfl ⟨rfl,an _ _⟩
  ·have U:decide ((400:Int)<(n:Int))=φ:=by simp;omega
   have D:¬(400:Int)<(n:Int):=by omega
   have g3:decide ((400:Int)<(m:Int))=φ:=by simp;omega
   have g4:¬(400:Int)<(m:Int):=by omega
   have g5:decide ((400:Int)<(k:Int))=θ:=by simp;omega
   have g6:(400:Int)<(k:Int):=by omega
   go_enter func192,ntmps192;go_wp2;exact ϋ (v:=κ #[J Z 0,J Z 0,J Z 0,J Z 0,J Z 2]) (by simp[results,results192,go_sem]) rfl ⟨rfl,an _ _⟩
 have U:decide ((400:Int)<(n:Int))=φ:=by simp;omega
 have D:¬(400:Int)<(n:Int):=by omega
 have g3:decide ((400:Int)<(m:Int))=φ:=by simp;omega
 have g4:¬(400:Int)<(m:Int):=by omega
 have g5:decide ((400:Int)<(k:Int))=φ:=by simp;omega
 have g6:¬(400:Int)<(k:Int):=by omega
 go_enter func192,ntmps192;go_wp2_with fail;generalize w.alloc (ξ #[J Z 0,J Z 0,J Z 0,J Z 0,J Z 0] 132)=W0 at R0 F ⊢;refine(yx cN _ ((yx HS).kept F) ((yx HD).kept F) ((yx HI).kept F) ((yx HE).kept F)).mono ?_;rintro e W1 ⟨rfl,f⟩;have R1:=R0.kept f;have G:=ak F f;clear f R0 F;cases nb
 ·obtain rfl:=yx H2 o rfl;obtain⟨r0,r1,r2,r3,r4⟩:=iZ (R1);have f0:=tq (R1);go_wp2;exact ϋ (v:=κ #[J Z 0,J Z 0,J Z 0,J Z 0,J Z 1]) (by simp[results,results192,go_sem,r0,r1,r2,r3,r4]) rfl ⟨rfl,gd G (ώ _) _ _ _ _ _⟩
 have ao:=yz (yx cO rfl);have C:=yz (yx aj rfl);have aN:=yx ad rfl;have ab:=yz (yx H3 o rfl);have ac:=yz (yx H4 o rfl);clear cO aj ad H1 H2 H3 H4 cN o U D g3 g4 g5 g6;go_wp2_with fail;refine(yx ao _ ((yx HS).kept G) ((yx HD).kept G) ((yx HI).kept G) ((yx HE).kept G)).mono ?_;rintro e W2 ⟨⟨v2,rfl,ho⟩,f⟩;obtain⟨a2,c2,rfl⟩:=JM ho;have ai:=yz (pH ho);have R2:=R1.kept f;have B2:=ak G f;clear ho f R1 G ao;by_cases E:A.length<2
 ·obtain rfl:=yx ab E;have aK:(A.length:Int)<2:=by omega
  obtain⟨r0,r1,r2,r3,r4⟩:=iZ (R2);have f0:=tq (R2);go_wp2;exact ϋ (v:=κ #[J Z 0,J Z 0,J Z 0,J Z 0,J Z 10]) (by simp[results,results192,go_sem,r0,r1,r2,r3,r4]) rfl ⟨rfl,gd B2 (ώ _) _ _ _ _ _⟩
 have aK:¬(A.length:Int)<2:=by omega
 have HR:=yz (yx ac E)
 have cT:Hid (∀W:ω,χ prog 203 #[] W fun e u=>∃g c,e=ρ (σ (ς ⟨g,0,ν⟩) (aE 625).length c)/\nf u g (aE 625)/\δ W.1.size W u):=yz (fun W=>(xt W).mono fun e u h=>by
  obtain⟨⟨v,he,ho⟩,hb⟩:=h;obtain⟨g,c,rfl,hg,s⟩:=zj ho wY
  exact⟨g,c,he,s,hb⟩)
 have aI:Hid (∀k,k<(aE 625).length->aG (tA (aE 625) k).1 (tA (aE 625) k).2.1 (tA (aE 625) k).2.2.1 (tA (aE 625) k).2.2.2=θ):=yz (fun k hk=>nR hk);have aQ:=oG 625;have cE:Hid (∀(t:T4) (a:Option η) (W:ω),aG t.1 t.2.1 t.2.2.1 t.2.2.2=θ->gH W a A A.length->χ prog 204 #[κ #[J Z t.1,J Z t.2.1,J Z t.2.2.1,J Z t.2.2.2],σ a A.length c2] W fun e u=>e=ρ (β (eC A t))/\δ W.1.size W u):=yz (fun t a W s hs=>zN A A.length t a c2 W rfl (by omega) s (yx C) hs);clear C ab ac E;have az:Hid (∀k,k<(aE 625).length->(∀j,j<k->eC A (tA (aE 625) j)=φ)->eC A (tA (aE 625) k)=θ->gL A (aE 625)=(tA (aE 625) k,0)):=yz (fun k hk h V=>BG hk h V);have aA:Hid ((∀j,j<(aE 625).length->eC A (tA (aE 625) j)=φ)->gL A (aE 625)=((0,0,0,0),6)):=yz uT;generalize aE 625=T at *;generalize aw:T.length=tn at *;have aH:=yz aw;clear aw;generalize A.length=al at *;go_wp2_with fail;refine(yx cT _).mono ?_;rintro e W3 ⟨g,c3,rfl,s,f⟩;have am:=yz s;have ah:=ap ai f;have ag:=yz (R2.kept f);have af:=yz (ak B2 f);clear s f R2 B2 ai cT;go_wp2;go_loopw [40] (fun i wr=>∃j:Nat,j<=tn/\i=J Z j/\Hid (∀l,l<j->eC A (tA T l)=φ)/\Hid (nf wr g T)/\Hid (gH wr a2 A al)/\Hid (Blk wr w.1.size [J Z 0,J Z 0,J Z 0,J Z 0,J Z 0] 132)/\Hid (δ w.1.size w wr)) (fun i _=>tn-(ύ i).toNat)
 case atStart=>exact⟨0,by omega,rfl,yz (fun j hj=>absurd hj (Nat.not_lt_zero _)),am,ah,ag,af⟩
 case round=>
  clear am ah ag af;obtain⟨j,hj,rfl,HF,HT,HS',x,HB⟩:=hrel;by_cases Y:j<tn
  ·have aP:(j:Int)<(tn:Int):=by omega
   obtain⟨c0,c1,O,P⟩:=(yx HT).2 j (by rw[yx aH];exact Y);have aa:=yx aI j Y;have B:=yz (yx az j Y (yx HF));obtain⟨t,s⟩:∃t,tA T j=t:=⟨_,rfl⟩
   rw[s]at c0 c1 O P aa B;have aF:=yz s;clear s;have Q:=yz (fun W h=>yx cE t a2 W aa h);clear aa;have ax:Hid (eC A (tA T j)=eC A t):=yz (by rw[yx aF]);generalize eC A t=ev at *;obtain⟨t1,t2,t3,t4⟩:=t;simp only at c0 c1 O P Q;have b:=an wr (ξ #[J Z t1,J Z t2,J Z t3,J Z t4] 24);have z:=yz (be wr t1 t2 t3 t4 24);have N:=ap HT b;have y:=ap HS' b;have I:=ap x b;have H:=aB HB b;clear b HT HS' x HB;go_wp2_with fail;clear c0 c1 O P;generalize wr.alloc (ξ #[J Z t1,J Z t2,J Z t3,J Z t4] 24)=W4 at z N y I H ⊢;generalize wr.1.size=tb at *;refine(yx Q _ (yx y)).mono ?_;rintro e W5 ⟨rfl,f⟩;have aJ:=yz ((yx z).kept (yx z).lt f);have aD:=ap N f;have aC:=ap y f;have K:=ap I f;have ae:=aB H f;clear f z N y I H Q;cases ev
   ·go_wp2;go_roundw
    case rel=>exact⟨j+1,by omega,by go_num,yz (fun l hl=>by
     by_cases e:l=j
     ·rw[e];exact yx ax
     ·exact yx HF l (by omega)),aD,aC,K,ae⟩
    case measure=>simp[ύ];omega
   ·have M:Hid (R=((t1,t2,t3,t4),0)):=yz (by rw[yx HR];exact yx B rfl);obtain⟨x0,x1,x2,x3⟩:=yx aJ;obtain⟨r0,r1,r2,r3,r4⟩:=iZ (yx K);have f0:=tq (yx K);go_wp2;exact ϋ (v:=κ #[J Z t1,J Z t2,J Z t3,J Z t4,J Z 0]) (by simp[results,results192,go_sem,r0,r1,r2,r3,r4]) rfl ⟨by rw[yx M];rfl,gd (yx ae) (ώ _) _ _ _ _ _⟩
  ·have av:j=tn:=by omega
   subst av;have M:Hid (R=((0,0,0,0),6)):=yz (by rw[yx HR];exact yx aA (yx HF));obtain⟨r0,r1,r2,r3,r4⟩:=iZ (yx x);have f0:=tq (yx x);go_wp2;exact ϋ (v:=κ #[J Z 0,J Z 0,J Z 0,J Z 0,J Z 6]) (by simp[results,results192,go_sem,r0,r1,r2,r3,r4]) rfl ⟨by rw[yx M];rfl,gd (yx HB) (ώ _) _ _ _ _ _⟩
def kD(L:List St)(S:List D3)(ids:List Int)(t:T4)(n:Nat):Prop:=∀j,j<n->(decide (ids.getD j 0=0) || eQ t (dz L S ids j))=θ
theorem xP{L:List St}{S:List D3}{a:List Int}{t:T4}{n:Nat}(h:kD L S a t n)(b:(decide (a.getD n 0=0) || eQ t (dz L S a n))=θ):kD L S a t (n+1):=fun l c=>by
 by_cases e:l=n
 ·rw[e];exact b
 ·exact h l (by omega)
theorem xA(L:List St)(S:List D3)(a:List Int)(t:T4)(k:Nat)(ar br ir:Option η)(cr dr er:Nat)(w:ω)(au:k<=6)(hn:L.length<=12)(ht:aG t.1 t.2.1 t.2.2.1 t.2.2.2=θ)(hS:aO w ar L L.length)(hD:bu w br S k)(hI:jx w ir a k)
  (v:∀i,i<k->a.getD i 0≠0->aX (atV L L.length (a.getD i 0)).1 (atV L L.length (a.getD i 0)).2.1 (atV L L.length (a.getD i 0)).2.2=θ/\lV (vA S i)=θ) :
  χ prog 181 #[σ ar L.length cr,σ br k dr,σ ir k er,κ #[J Z t.1,J Z t.2.1,J Z t.2.2.1,J Z t.2.2.2]] w fun e w'=>e=ρ (β (jR L S a t k))/\δ w.1.size w w':=by
 have cA:=yz (fun (W:ω) (q:Int) hW=>yF L L.length q ar cr W (by omega) hW);have X:Hid (∀i,i<k->(decide (a.getD i 0=0) || eQ t (dz L S a i))=φ->jR L S a t k=φ):=yz (fun i hi h=>Fe hi h);have H:Hid (kD L S a t k->jR L S a t k=θ):=yz (fun h=>Dy h);have Y:Hid (∀n,kD L S a t n->(decide (a.getD n 0=0) || eQ t (dz L S a n))=θ->kD L S a t (n+1)):=yz (fun n h h1=>xP h h1);have H0:Hid (kD L S a t 0):=yz (fun j hj=>absurd hj (Nat.not_lt_zero _));have F:Hid (∀i,eQ t (dz L S a i)=dl (vA S i) (apD t.1 t.2.1 t.2.2.1 t.2.2.2 (atV L L.length (a.getD i 0)))):=yz (fun i=>rfl);have U:=yz v;have HT:=yz ht;have HS:=yz hS;have HD:=yz hD;clear hS hD v ht;generalize jR L S a t k=R at *;generalize kD L S a t=TT at *;generalize eQ t=aq at *;obtain⟨B,C,D,E⟩:=t;simp only at HT F ⊢;generalize L.length=n at *;have V0:=yz (be w B C D E 24);have T:=yz (an w (ξ #[J Z B,J Z C,J Z D,J Z E] 24));rcases hI with rfl | ⟨ib,io,rfl,ab,N⟩
 ·have HY:=yz (yx H (yx H0));go_enter func181,ntmps181;go_wp2;refine wp_loop_rounds 1 ?_;rw[rounds_succ];go_wp2;go_ret;exact⟨by rw[yx HY];rfl,yx T⟩
 have V:=yz N;clear N;go_enter func181,ntmps181;go_wp2;go_loopw [9] (fun kk wr=>∃i:Nat,i<=k/\kk=J Z i/\Hid (TT i)/\Hid (aR wr w.1.size B C D E)/\Hid (δ w.1.size w wr)) (fun kk _=>k-(ύ kk).toNat)
 case atStart=>exact⟨0,by omega,rfl,H0,V0,T⟩
 case round=>
  clear V0 T;obtain⟨i,hi,rfl,HF,z,u⟩:=hrel;by_cases o:i<k
  ·have ak:(i:Int)<(k:Int):=by omega
   have Q:wr.cell? ⟨ib,io+i,ν⟩=ς (J Z (a.getD i 0)):=by rw[(yx u).cell (p:=⟨ib,io+i,ν⟩) ab];exact yx V i o
   have b:=yz (yx Y i (yx HF));have d:=yz (yx X i o);have M:=yx U i o;rw[yx F i]at b d;generalize a.getD i 0=x at *;by_cases g:x=0
   ·subst g;have y:=yz (yx b rfl);have ri:=ϊ Q;clear Q;have av:((0:Int)==0)=θ:=rfl;have al:decide ((0:Int)≠0)=φ:=by decide
    go_wp2_with fail;refine de ?_;repeat (go_big_quiet_step (fail))
    refine di fun I l=>?_;have s:=ό wr I l;have c:=aB u s;have f:=yz ((yx z).kept (yx z).lt s);generalize grow (redrawn wr I) l=W5 at s c f ⊢;clear s ri u z;go_wp2;go_roundw
    case rel=>exact⟨i+1,by omega,by go_num,y,f,c⟩
    case measure=>simp[ύ]<;>omega
   have am:(x==0)=φ:=by simp[g]
   have ao:(x != 0)=θ:=by simp[g]
   obtain⟨A,P⟩:=M g;rw[decide_eq_false g,Bool.false_or]at b d;have m:=yz (fun (W:ω) hW=>yx cA W x hW);rcases yx HD with h | ⟨bb,bo,rfl,aa,K⟩
   ·omega
   have ac:=(K i o).kept aa (yx u);clear K;generalize vA S i=sv at *;generalize atV L n x=q at *;have cP:=yz (fun W=>nE B C D E q W (yx HT) A);have cQ:=yz (fun W=>kq (apD B C D E q) sv W (uD (yx HT) A) (rp P));clear M A P;generalize dl sv (apD B C D E q)=sm at *;generalize apD B C D E q=r at *;obtain⟨q1,q2,q3⟩:=q;obtain⟨r1,r2,r3⟩:=r;obtain⟨v1,v2,v3⟩:=sv;unfold Fj at m;simp only at m cP cQ;obtain⟨c0,c1,c2⟩:=ac;simp only at c0 c1 c2;obtain⟨y0,y1,y2,y3⟩:=yx z;have ri:=ϊ Q;have ad:=ϊ c0;have ae:=ϊ c1;have af:=ϊ c2;have ag:=ϊ y0;have ah:=ϊ y1;have ai:=ϊ y2;have aj:=ϊ y3;clear Q c0 c1 c2 y0 y1 y2 y3;have G:=ap HS (yx u);go_wp2_with fail;refine de ?_;repeat (go_big_quiet_step (first | (with_reducible exact Calls.regrown_of (yx m _ ((yx G).kept (ό _ _ _)))) | (with_reducible exact aH cP) | (with_reducible exact aH cQ)))
   refine di fun I l=>?_;have s:=ό wr I l;have c:=aB u s;have f:=yz ((yx z).kept (yx z).lt s);generalize grow (redrawn wr I) l=W5 at s c f ⊢;clear s ri ad ae af ag ah ai aj m cP cQ u z G;cases sm
   ·have HN:=yz (yx d rfl);go_wp2;go_ret;exact⟨by rw[yx HN];rfl,yx c⟩
   ·have y:=yz (yx b rfl);go_wp2;go_roundw
    case rel=>exact⟨i+1,by omega,by go_num,y,f,c⟩
    case measure=>simp[ύ]<;>omega
  ·have O:i=k:=by omega
   subst O;have HY:=yz (yx H (yx HF));go_wp2;go_ret;exact⟨by rw[yx HY];rfl,yx u⟩
def zA(ids:List Int):Nat->Nat
 | 0=>0
 | k+1=>zA ids k+if ids.getD k 0≠0 then 1 else 0
theorem Fx(L:List St)(S:List D3)(a:List Int):∀k,zA a k=(ay L S a k).length
 | 0=>rfl
 | k+1=>by
  have b:=Fx L S a k;show zA a k+(if a.getD k 0≠0 then 1 else 0)=_;rw[AG,b]
theorem Fy(a:List Int):∀k,zA a k<=k
 | 0=>ώ _
 | k+1=>by
  have b:=Fy a k;show zA a k+(if a.getD k 0≠0 then 1 else 0)<=k+1;split<;>omega
theorem Ek(L:List St)(S:List D3)(a:List Int)(X Y ir:Option η)(cr dr er:Nat)(w:ω)(hN:cJ L S a=θ)(hS:aO w X L L.length)(hD:bu w Y S S.length)(hI:jx w ir a a.length):
  χ prog 157 #[σ X L.length cr,σ Y S.length dr,σ ir a.length er] w fun e H=>e=ρ (outV (if (ay L S a a.length).length<2 then ((0,0,0,0),10) else gL (ay L S a a.length) (aE 625)))/\δ w.1.size w H:=by
 obtain⟨g1,g2,g3,_⟩:=iw hN;have ax:=(bN g2).1;have ae:=(ff g1).1
 have cU:Hid (∀(t:T4) (W:ω),aG t.1 t.2.1 t.2.2.1 t.2.2.2=θ->aO W X L L.length->bu W Y S a.length->jx W ir a a.length->χ prog 181 #[σ X L.length cr,σ Y a.length dr,σ ir a.length er,κ #[J Z t.1,J Z t.2.1,J Z t.2.2.1,J Z t.2.2.2]] W fun e H=>e=ρ (β (eC (ay L S a a.length) t))/\δ W.1.size W H):=yz (fun t W m h1 C h3=>by
  rw[<-Ir]
  exact xA L S a t a.length X Y ir cr dr er W (by omega) ae m h1 C h3 (fun i hi h0=>Ew hN hi h0))
 have P:=yz (Fx L S a a.length)
 have cT:Hid (∀W:ω,χ prog 180 #[] W fun e H=>∃g c,e=ρ (σ (ς ⟨g,0,ν⟩) (aE 625).length c)/\nf H g (aE 625)/\δ W.1.size W H):=yz (fun W=>(xM W).mono fun e H h=>by
  obtain⟨⟨v,he,ho⟩,hb⟩:=h;obtain⟨g,c,rfl,hg,m⟩:=zj ho wY
  exact⟨g,c,he,m,hb⟩)
 have am:Hid (∀k,k<(aE 625).length->aG (tA (aE 625) k).1 (tA (aE 625) k).2.1 (tA (aE 625) k).2.2.1 (tA (aE 625) k).2.2.2=θ):=yz (fun k hk=>nR hk);have aD:=oG 625;have HS:=yz hS;have HD:=yz hD;clear hS hD hN g1 g2;rw[<-g3]at HD ax;rw[<-g3];clear g3;generalize ay L S a a.length=A at *;have ag:Hid (∀k,k<(aE 625).length->(∀j,j<k->eC A (tA (aE 625) j)=φ)->eC A (tA (aE 625) k)=θ->gL A (aE 625)=(tA (aE 625) k,0)):=yz (fun k hk h h1=>BG hk h h1);have ah:Hid ((∀j,j<(aE 625).length->eC A (tA (aE 625) j)=φ)->gL A (aE 625)=((0,0,0,0),6)):=yz uT;generalize aE 625=T at *;generalize ad:T.length=tn at *;have ak:=yz ad;clear ad;generalize L.length=n at *;generalize A.length=K at *;obtain⟨RV,u⟩:∃r,r=(if K<2 then ((0,0,0,0),10) else gL A T):=⟨_,rfl⟩
 rw[<-u];have R:Hid (K<2->RV=((0,0,0,0),10)):=yz (fun h=>by rw[u,if_pos h]);have b:Hid (¬K<2->RV=gL A T):=yz (fun h=>by rw[u,if_neg h]);clear u;have HI:=yz hI;clear hI;generalize a.length=k at *;have V:=yz (aq w [J Z 0,J Z 0,J Z 0,J Z 0,J Z 0] 132);have M:=yz (an w (ξ #[J Z 0,J Z 0,J Z 0,J Z 0,J Z 0] 132));go_enter func157,ntmps157;go_wp2_with fail;generalize w.alloc (ξ #[J Z 0,J Z 0,J Z 0,J Z 0,J Z 0] 132)=W0 at V M ⊢;go_loopw [7,8] (fun c G wr=>∃i:Nat,i<=k/\G=J Z i/\c=J Z (zA a i:Int)/\wr=W0) (fun _ G _=>k-(ύ G).toNat)
 case atStart=>exact⟨0,by omega,rfl,rfl,rfl⟩
 case round=>
  obtain⟨i,hi,rfl,rfl,rfl⟩:=hrel;by_cases aw:i<k
  ·have az:(i:Int)<(k:Int):=by omega
   rcases yx HI with h | ⟨ib,io,rfl,av,aa⟩
   ·omega
   have ci:wr.cell? ⟨ib,io+i,ν⟩=ς (J Z (a.getD i 0)):=by rw[(yx M).cell (p:=⟨ib,io+i,ν⟩) av];exact aa i aw
   clear aa;have o:Hid (zA a (i+1)=zA a i+if a.getD i 0≠0 then 1 else 0):=yz rfl;have aF:=Fy a i;generalize a.getD i 0=x at *;generalize au:zA a i=ct at *;clear au;by_cases F:x=0
   ·subst F;rw[if_neg (by simp)]at o;go_wp2;go_roundw
    case rel=>exact⟨i+1,by omega,by go_num,by rw[yx o];rfl,by first | rfl | trivial⟩
    case measure=>simp[ύ]<;>omega
   ·have aC:(x==0)=φ:=by simp[F]
    rw[if_pos F]at o;go_wp2;go_roundw
    case rel=>exact⟨i+1,by omega,by go_num,by rw[yx o];go_num,by first | rfl | trivial⟩
    case measure=>simp[ύ]<;>omega
  ·have ab:i=k:=by omega
   subst ab;rw[yx P];clear P;by_cases C:K<2
   ·have ao:(K:Int)<2:=by omega
    have f:=yz (yx R C);obtain⟨r0,r1,r2,r3,r4⟩:=iZ (yx V);have f0:=tq (yx V);go_wp2;exact ϋ (v:=κ #[J Z 0,J Z 0,J Z 0,J Z 0,J Z 10]) (by simp[results,results157,go_sem,r0,r1,r2,r3,r4]) rfl ⟨by rw[yx f];rfl,gd (yx M) (ώ _) _ _ _ _ _⟩
   have ao:¬(K:Int)<2:=by omega
   have HR:=yz (yx b C);clear R b C;go_wp2_with fail;refine(yx cT _).mono ?_;rintro e W3 ⟨g,c3,rfl,m,d⟩;have U:=yz m;have Q:=ap V d;have O:=aB M d;clear m d V M cT;go_wp2;go_loopw [10] (fun G wr=>∃j:Nat,j<=tn/\G=J Z j/\Hid (∀l,l<j->eC A (tA T l)=φ)/\Hid (nf wr g T)/\Hid (Blk wr w.1.size [J Z 0,J Z 0,J Z 0,J Z 0,J Z 0] 132)/\Hid (δ w.1.size w wr)) (fun G _=>tn-(ύ G).toNat)
   case atStart=>exact⟨0,by omega,rfl,yz (fun j hj=>absurd hj (Nat.not_lt_zero _)),U,Q,O⟩
   case round=>
    clear U Q O;obtain⟨j,hj,rfl,HF,HT,b,I⟩:=hrel;by_cases D:j<tn
    ·have aA:(j:Int)<(tn:Int):=by omega
     obtain⟨c0,c1,q,s⟩:=(yx HT).2 j (by rw[yx ak];exact D);have E:=yx am j D;have y:=yz (yx ag j D (yx HF));obtain⟨t,m⟩:∃t,tA T j=t:=⟨_,rfl⟩
     rw[m]at c0 c1 q s E y;have aj:=yz m;clear m;have B:=yz (fun W h1 C h3=>yx cU t W E h1 C h3);clear E;have af:Hid (eC A (tA T j)=eC A t):=yz (by rw[yx aj]);generalize eC A t=ev at *;obtain⟨t1,t2,t3,t4⟩:=t;simp only at c0 c1 q s B;go_wp2_with fail;refine(yx B _ ((yx HS).kept (yx I)) ((yx HD).kept (yx I)) ((yx HI).kept (yx I))).mono ?_;rintro e W5 ⟨rfl,d⟩;have ai:=ap HT d;have z:=ap b d;have N:=aB I d;have x0:=ge c0 d;have x1:=ge c1 d;have x2:=ge q d;have x3:=ge s d;clear d HT b I B c0 c1 q s;cases ev
     ·clear x0 x1 x2 x3;go_wp2;go_roundw
      case rel=>exact⟨j+1,by omega,by go_num,yz (fun l hl=>by
       by_cases e:l=j
       ·rw[e];exact yx af
       ·exact yx HF l (by omega)),ai,z,N⟩
      case measure=>simp[ύ];omega
     ·have f:Hid (RV=((t1,t2,t3,t4),0)):=yz (by rw[yx HR];exact yx y rfl);obtain⟨r0,r1,r2,r3,r4⟩:=iZ (yx z);have f0:=tq (yx z);go_wp2;exact ϋ (v:=κ #[J Z t1,J Z t2,J Z t3,J Z t4,J Z 0]) (by simp[results,results157,go_sem,r0,r1,r2,r3,r4]) rfl ⟨by rw[yx f];rfl,gd (yx N) (ώ _) _ _ _ _ _⟩
    ·have ac:j=tn:=by omega
     subst ac;have f:Hid (RV=((0,0,0,0),6)):=yz (by rw[yx HR];exact yx ah (yx HF));obtain⟨r0,r1,r2,r3,r4⟩:=iZ (yx b);have f0:=tq (yx b);go_wp2;exact ϋ (v:=κ #[J Z 0,J Z 0,J Z 0,J Z 0,J Z 6]) (by simp[results,results157,go_sem,r0,r1,r2,r3,r4]) rfl ⟨by rw[yx f];rfl,gd (yx I) (ώ _) _ _ _ _ _⟩
theorem pI(b:Nat)(t:ByteArray)(w:ω)(G:aY b w)(T:t.size<=10000):
  χ prog 37 #[π (ς ⟨b,0,ν⟩),τ t] w fun e I=>∃r:ByteArray,e=ρ (τ r)/\r.size<=t.size+1/\aY b I/\w.grownBy I (ς b):=by
 have F:=yz G;clear G;go_enter func37,ntmps37;go_wp2_with fail;refine(bz b _ _ (yx F) (by omega)).mono ?_;rintro e Y ⟨z,rfl,Q,L,M,n,H⟩;have i:=yz n;clear n F;go_wp2_with fail;refine(bz b 17 _ (yx i) (by omega)).mono ?_;rintro e w2 ⟨y,rfl,P,K,_,o,x⟩;have D:y<17:=K (by omega);obtain⟨j,rfl⟩:∃j:Nat,y=(j:Int):=⟨y.toNat,by omega⟩
 have O:j<17:=by omega
 have l:=yz o;have u:=aj H x;clear o i K H x;go_wp2_with fail;rw[NC];generalize (ByteArray.mk #[32,10,48,97,45,110,44,58,93,255,40,120,126,49,128,225,59])[j]'_=c;obtain⟨k,rfl⟩:∃k:Nat,z=(k:Int):=⟨z.toNat,by omega⟩
 have S:k<=t.size:=by
  by_cases N:(t.size:Int)+1<=1
  ·have:=M N;omega
  ·have:=L (by omega);omega
 have p:=(yx l).allocs (ξ #[.int .u8 (c.toNat:Int)] 5);have A:=BT u (ξ #[.int .u8 (c.toNat:Int)] 5);have f:=yz p;have a:=yz A;clear p l u A L M Q O D P;have U:(0:Int)<=(k:Int):=by omega
 have V:(k:Int)<=(t.size:Int):=by omega
 by_cases R:k=t.size
 ·have E:(k:Int)=(t.size:Int):=by omega
  go_wp2_with fail;go_quiet (fail)
  go_wp2;exact ϋ (v:=τ (t ++ ⟨#[c]⟩)) (by simp[results,results37,go_sem]) rfl ⟨_,rfl,by simp[ByteArray.size_append,ByteArray.size_extract,qI]<;>omega,(yx f).drewNs _,aj (yx a) (js _ _ _)⟩
 ·have E:¬(k:Int)=(t.size:Int):=by omega
  go_wp2_with fail;refine(bW b 3 _ (yx f) (by omega)).mono ?_;rintro e w4 ⟨y,rfl,q,B⟩;have g:=yz q;have d:=yz (aj (yx a) B);clear f a q B;cases y
  ·go_wp2_with fail;refine(bW b 2 _ (yx g) (by omega)).mono ?_;rintro e w5 ⟨y,rfl,s,C⟩;have m:=yz s;have h:=yz (aj (yx d) C);clear g d s C;have W:(k:Int)+1<=(t.size:Int):=by omega
   have X:(0:Int)<=(k:Int)+1:=by omega
   cases y
   ·go_wp2_with fail;go_quiet (fail)
    go_wp2;exact ϋ (v:=τ (t.extract 0 k ++ ⟨#[c]⟩ ++ t.extract (k+1) t.size)) (by simp[results,results37,go_sem]) rfl ⟨_,rfl,by simp[ByteArray.size_append,ByteArray.size_extract,qI]<;>omega,(yx m).drewNs _,aj (yx h) (js _ _ _)⟩
   ·go_wp2_with fail;go_quiet (fail)
    go_wp2;exact ϋ (v:=τ (t.extract 0 k ++ t.extract (k+1) t.size)) (by simp[results,results37,go_sem]) rfl ⟨_,rfl,by simp[ByteArray.size_append,ByteArray.size_extract,qI]<;>omega,(yx m).drewNs _,aj (yx h) (js _ _ _)⟩
  ·go_wp2_with fail;go_quiet (fail)
   go_wp2;exact ϋ (v:=τ (t.extract 0 k ++ ⟨#[c]⟩ ++ t.extract k t.size)) (by simp[results,results37,go_sem]) rfl ⟨_,rfl,by simp[ByteArray.size_append,ByteArray.size_extract,qI]<;>omega,(yx g).drewNs _,aj (yx d) (js _ _ _)⟩
section
def dw(b:η)(w:ω):Prop:=w.cell? ⟨0,0,ν⟩=ς (.iface 291 (π (ς b)))
variable {b:η} {w:ω}
theorem dw.lt(h:dw b w):0<w.1.size:=World.block_lt_of_cell? w _ h
theorem dw.kept{a:ω}(h:dw b w)(c:δ w.1.size w a):dw b a:=by
 unfold dw;rw[c.cell (p:=⟨0,0,ν⟩) h.lt];exact h
def em(b:η):Ending:=.panicked [{ v:=.iface 291 (π (ς b)),recovered:=φ }]
theorem eV(w:ω):χ prog 75 #[β θ] w fun e a=>e=ρ (.tuple #[])/\a=w:=by
 go_enter func75,ntmps75;go_wp2;go_end0
 exact⟨rfl,rfl⟩
theorem eU(p:η)(w:ω)(h:dw p w):χ prog 75 #[β φ] w fun e a=>e=em p/\a=w:=by
 unfold dw at h;go_enter func75,ntmps75;go_wp2;exact⟨rfl,rfl,rfl⟩
def mh(a b a' b':Int)(s s':ByteArray):Bool:=decide (a=a')&&decide (b=b')&&decide (s.toList=s'.toList)
theorem BC(a b c d:Int)(s f:ByteArray)(w:ω):(Op.equalIn 10000 27 (κ #[J Z a,J Z b,τ s]) (κ #[J Z c,J Z d,τ f])).run prog w=.ok (mh a b c d s f) w:=by
 have h:=run_equalIn_struct (P:=prog) w 9999 27 #[J Z a,J Z b,τ s] #[J Z c,J Z d,τ f] (by kernel_rfl) (by kernel_rfl);refine h.trans ?_;by_cases e:a=c
 ·by_cases g:b=d
  ·by_cases i:s.toList=f.toList
   ·simp[go_sem,mh,e,g,i]
   ·simp[go_sem,mh,e,g,i]
  ·simp[go_sem,mh,e,g]
 ·simp[go_sem,mh,e]
theorem jU(a b c d:Int)(s e:ByteArray)(w:ω):(binOp .eql 27 (κ #[J Z a,J Z b,τ s]) (κ #[J Z c,J Z d,τ e])).run prog w=.ok (β (mh a b c d s e)) w:=by
 rw[run_eql_struct,BC];rfl
theorem rC(a b:Option η)(n m c d:Nat)(w:ω)(f:n≠m):
  χ prog 119 #[σ a n c,σ b m d] w fun e g=>e=ρ (β φ)/\δ w.1.size w g:=by
 have h:¬(n:Int)=(m:Int):=by omega
 go_enter func119,ntmps119;go_wp2;go_ret;exact⟨rfl,ϒ _ _⟩
theorem me(L:List D3)(a s:Option η)(n c H:Nat)(w:ω)(X:n<=1048576)(I:bu w a L n)(p:bu w s L n):
  χ prog 119 #[σ a n c,σ s n H] w fun e S=>e=ρ (β θ)/\δ w.1.size w S:=by
 rcases I with rfl | ⟨b,o,rfl,K,B⟩
 ·go_enter func119,ntmps119;go_wp2;refine wp_loop_rounds 1 ?_;rw[rounds_succ];go_wp2;go_ret;exact⟨rfl,ϒ _ _⟩
 rcases p with rfl | ⟨U,o',rfl,q,f⟩
 ·go_enter func119,ntmps119;go_wp2;refine wp_loop_rounds 1 ?_;rw[rounds_succ];go_wp2;go_ret;exact⟨rfl,ϒ _ _⟩
 have G:=yz B;have m:=yz f;clear B f;go_enter func119,ntmps119;go_wp2;go_loopw [13] (fun i wr=>∃k:Nat,k<=n/\i=J Z k/\Hid (δ w.1.size w wr)) (fun i _=>n-(ύ i).toNat)
 case atStart=>exact⟨0,by omega,rfl,yz (ϒ _ _)⟩
 case round=>
  obtain⟨k,V,rfl,d⟩:=hrel;by_cases g:k<n
  ·have C:(k:Int)<(n:Int):=by omega
   obtain⟨t,u,v⟩:=((yx G) k g).kept K (yx d);obtain⟨x,y,z⟩:=((yx m) k g).kept q (yx d);generalize (vA L k).1=D at *;generalize (vA L k).2.1=E at *;generalize (vA L k).2.2=F at *;have M:=ϊ t;have N:=ϊ u;have O:=ϊ v;have P:=ϊ x;have Q:=ϊ y;have R:=ϊ z
   have Y:∀W:ω,(binOp .neq 93 (κ #[J Z D,J Z E,J Z F]) (κ #[J Z D,J Z E,J Z F])).run prog W=.ok (β φ) W:=fun W=>by
    rw[mB];simp[eqB]
   clear t u v x y z;go_wp2_with fail;refine de ?_;repeat (go_big_quiet_step (fail))
   refine di fun A j=>?_;have r:=ak (yx d) (ό wr A j);generalize grow (redrawn wr A) j=T at r ⊢;have l:=yz r;clear r d M N O P Q R;go_wp2;go_roundw
   case rel=>exact⟨k+1,by omega,by go_num,l⟩
   case measure=>simp[ύ];omega
  ·have h:k=n:=by omega
   subst h;go_wp2;go_ret;exact⟨rfl,yx d⟩
end
def ky(c d:Cm)(q:Bool):Bool:=decide (c.kind=d.kind)&&eqT c.A c.B c.C c.D d.A d.B d.C d.D&&q&&mh c.wd c.ht d.wd d.ht c.px d.px&&decide (c.lv=d.lv)&&decide (c.fo=d.fo)
theorem hH(b s B' t u j g h f d A B C D r l o k:Int)(i p:ByteArray)(S' S:List D3)(a x:Option η)(n m c z:Nat)(q:Bool)(w:ω)
  (X:∀W:ω,δ w.1.size w W->χ prog 119 #[σ x m z,σ a n c] W fun e N=>e=ρ (β q)/\δ W.1.size W N) :
  χ prog 81 #[κ #[J Z b,J Z s,J Z B',J Z t,J Z u,σ x m z,J Z j,J Z g,τ i,J Z h,J Z f],κ #[J Z d,J Z A,J Z B,J Z C,J Z D,σ a n c,J Z r,J Z l,τ p,J Z o,J Z k]] w fun e N=>e=ρ (β (ky ⟨b,s,B',t,u,S',j,g,i,h,f⟩ ⟨d,A,B,C,D,S,r,l,p,o,k⟩ q))/\δ w.1.size w N:=by
 have E:=yz (aJ w (ξ #[J Z b,J Z s,J Z B',J Z t,J Z u,σ x m z,J Z j,J Z g,τ i,J Z h,J Z f] 29) (ξ #[J Z d,J Z A,J Z B,J Z C,J Z D,σ a n c,J Z r,J Z l,τ p,J Z o,J Z k] 29));have T:=yz ((aq w [J Z b,J Z s,J Z B',J Z t,J Z u,σ x m z,J Z j,J Z g,τ i,J Z h,J Z f] 29).alloc (ξ #[J Z d,J Z A,J Z B,J Z C,J Z D,σ a n c,J Z r,J Z l,τ p,J Z o,J Z k] 29));have U:=yz (by simpa using aq (w.alloc (ξ #[J Z b,J Z s,J Z B',J Z t,J Z u,σ x m z,J Z j,J Z g,τ i,J Z h,J Z f] 29)) [J Z d,J Z A,J Z B,J Z C,J Z D,σ a n c,J Z r,J Z l,τ p,J Z o,J Z k] 29:Blk ((w.alloc (ξ #[J Z b,J Z s,J Z B',J Z t,J Z u,σ x m z,J Z j,J Z g,τ i,J Z h,J Z f] 29)).alloc (ξ #[J Z d,J Z A,J Z B,J Z C,J Z D,σ a n c,J Z r,J Z l,τ p,J Z o,J Z k] 29)) (w.1.size+1) [J Z d,J Z A,J Z B,J Z C,J Z D,σ a n c,J Z r,J Z l,τ p,J Z o,J Z k] 29);have V:=yz (X _ (yx E));clear X;obtain⟨O,H⟩:∃y,decide (b=d)=y:=⟨_,rfl⟩
 obtain⟨P,I⟩:∃y,eqT s B' t u A B C D=y:=⟨_,rfl⟩
 obtain⟨Q,K⟩:∃y,mh j g r l i p=y:=⟨_,rfl⟩
 obtain⟨R,L⟩:∃y,decide (h=o)=y:=⟨_,rfl⟩
 obtain⟨Y,M⟩:∃y,decide (f=k)=y:=⟨_,rfl⟩
 have v:Hid (ky ⟨b,s,B',t,u,S',j,g,i,h,f⟩ ⟨d,A,B,C,D,S,r,l,p,o,k⟩ q=(O&&P&&q&&Q&&R&&Y)):=yz (by unfold ky;dsimp only;rw[H,I,K,L,M]);have x1:(b==d)=O:=by rw[<-H];rfl
 have x5:(h==o)=R:=by rw[<-L];rfl
 have x6:(f==k)=Y:=by rw[<-M];rfl
 have x2:∀W:ω,(binOp .eql 24 (κ #[J Z s,J Z B',J Z t,J Z u]) (κ #[J Z A,J Z B,J Z C,J Z D])).run prog W=.ok (β P) W:=fun W=>by rw[gP,I]
 have x4:∀W:ω,(binOp .eql 27 (κ #[J Z j,J Z g,τ i]) (κ #[J Z r,J Z l,τ p])).run prog W=.ok (β Q) W:=fun W=>by rw[jU,K]
 clear H I K L M;cases O
 ·go_enter func81,ntmps81;go_wp2;go_ret;exact⟨by rw[yx v];rfl,yx E⟩
 cases P
 ·go_enter func81,ntmps81;go_wp2;go_ret;exact⟨by rw[yx v];rfl,yx E⟩
 go_enter func81,ntmps81;go_wp2_with fail;refine(yx V).mono ?_;rintro e w1 ⟨rfl,G⟩;have A1:=ap T G;have U1:=ap U G;have F:=aB E G;clear G T U E V;have q0:=bV (yx A1);have u0:=bV (yx U1);cases q
 ·go_wp2;go_ret;exact⟨by rw[yx v];rfl,yx F⟩
 cases Q
 ·go_wp2;go_ret;exact⟨by rw[yx v];rfl,yx F⟩
 cases R
 ·go_wp2;go_ret;exact⟨by rw[yx v];rfl,yx F⟩
 go_wp2;go_ret;exact⟨by rw[yx v];simp,yx F⟩
theorem qN(w:ω):χ prog 248 #[κ #[]] w fun e a=>e=ρ (κ #[J Z 1,J Z 0,J Z 0,J Z 0,J Z 0,σ ν 0 0,J Z 0,J Z 0,τ ⟨#[]⟩,J Z 0,J Z 0])/\δ w.1.size w a:=by
 go_enter func248,ntmps248;go_wp2;exact ϋ (v:=κ #[J Z 1,J Z 0,J Z 0,J Z 0,J Z 0,σ ν 0 0,J Z 0,J Z 0,τ ⟨#[]⟩,J Z 0,J Z 0]) (by simp[results,results248,go_sem]) rfl ⟨rfl,aJ _ _ _⟩
theorem sL(A B C D:Int)(w:ω):χ prog 250 #[κ #[J Z A,J Z B,J Z C,J Z D]] w fun e a=>e=ρ (κ #[J Z 2,J Z A,J Z B,J Z C,J Z D,σ ν 0 0,J Z 0,J Z 0,τ ⟨#[]⟩,J Z 0,J Z 0])/\δ w.1.size w a:=by
 go_enter func250,ntmps250;go_wp2;exact ϋ (v:=κ #[J Z 2,J Z A,J Z B,J Z C,J Z D,σ ν 0 0,J Z 0,J Z 0,τ ⟨#[]⟩,J Z 0,J Z 0]) (by simp[results,results250,go_sem]) rfl ⟨rfl,aJ _ _ _⟩
theorem sU(a:Option η)(n c:Nat)(w:ω):χ prog 252 #[κ #[σ a n c]] w fun e b=>e=ρ (κ #[J Z 3,J Z 0,J Z 0,J Z 0,J Z 0,σ a n c,J Z 0,J Z 0,τ ⟨#[]⟩,J Z 0,J Z 0])/\δ w.1.size w b:=by
 go_enter func252,ntmps252;go_wp2;exact ϋ (v:=κ #[J Z 3,J Z 0,J Z 0,J Z 0,J Z 0,σ a n c,J Z 0,J Z 0,τ ⟨#[]⟩,J Z 0,J Z 0]) (by simp[results,results252,go_sem]) rfl ⟨rfl,aJ _ _ _⟩
theorem qo(f b c a:Int)(d:ByteArray)(w:ω):χ prog 254 #[κ #[J Z f,J Z b,τ d,J Z c,J Z a]] w fun e g=>e=ρ (κ #[J Z 4,J Z 0,J Z 0,J Z 0,J Z 0,σ ν 0 0,J Z f,J Z b,τ d,J Z c,J Z a])/\δ w.1.size w g:=by
 go_enter func254,ntmps254;go_wp2;exact ϋ (v:=κ #[J Z 4,J Z 0,J Z 0,J Z 0,J Z 0,σ ν 0 0,J Z f,J Z b,τ d,J Z c,J Z a]) (by simp[results,results254,go_sem]) rfl ⟨rfl,aJ _ _ _⟩
theorem Jq(a:Int)(w:ω):χ prog 79 #[J Z a] w fun e b=>e=ρ (β (bG 0 255 a))/\b=w:=by
 by_cases h:0<=a
 ·go_enter func79,ntmps79;go_wp2;go_ret;exact⟨by simp[bG,h],rfl⟩
 ·go_enter func79,ntmps79;go_wp2;go_ret;exact⟨by rw[nN (by omega)];rfl,rfl⟩
theorem Jp(a:Int)(w:ω):χ prog 80 #[J Z a] w fun e b=>e=ρ (β (bG 1 40 a))/\b=w:=by
 by_cases h:1<=a
 ·go_enter func80,ntmps80;go_wp2;go_ret;exact⟨by simp[bG,h],rfl⟩
 ·go_enter func80,ntmps80;go_wp2;go_ret;exact⟨by rw[nN (by omega)];rfl,rfl⟩
def Gt(kind A B C D:Int)(v:μ)(wd ht:Int)(px:ByteArray)(lv fo:Int):μ:=
 if kind=1 then .iface 114 (κ #[])
 else if kind=2 then .iface 117 (κ #[J Z A,J Z B,J Z C,J Z D])
 else if kind=3 then .iface 119 (κ #[v])
 else .iface 121 (κ #[J Z wd,J Z ht,τ px,J Z lv,J Z fo])
def bm(p:η)(c:Cm)(v:μ)(e:Ending):Prop:=if bA c=θ then e=ρ (Gt c.kind c.A c.B c.C c.D v c.wd c.ht c.px c.lv c.fo) else e=em p
theorem gl{w W:ω}{b:Nat}{a A B C D g d e c:Int}{f:ByteArray}{v:μ}(h:Blk W b [J Z a,J Z A,J Z B,J Z C,J Z D,v,J Z g,J Z d,τ f,J Z e,J Z c] 29):W.cell? ⟨b,0,ν⟩=ς (J Z a)/\W.cell? ⟨b,1,ν⟩=ς (J Z A)/\W.cell? ⟨b,2,ν⟩=ς (J Z B)/\W.cell? ⟨b,3,ν⟩=ς (J Z C)/\W.cell? ⟨b,4,ν⟩=ς (J Z D)/\W.cell? ⟨b,5,ν⟩=ς v/\W.cell? ⟨b,6,ν⟩=ς (J Z g)/\W.cell? ⟨b,7,ν⟩=ς (J Z d)/\W.cell? ⟨b,8,ν⟩=ς (τ f)/\W.cell? ⟨b,9,ν⟩=ς (J Z e)/\W.cell? ⟨b,10,ν⟩=ς (J Z c):=
 ⟨h.cell 0 _ rfl,h.cell 1 _ rfl,h.cell 2 _ rfl,h.cell 3 _ rfl,h.cell 4 _ rfl,h.cell 5 _ rfl,h.cell 6 _ rfl,h.cell 7 _ rfl,h.cell 8 _ rfl,h.cell 9 _ rfl,h.cell 10 _ rfl⟩
theorem IW(a b c d:Int):eqT a b c d a b c d=θ:=by unfold eqT;simp
theorem uR(a b c d:Int):eqT 0 0 0 0 a b c d=eqT a b c d 0 0 0 0:=by
 unfold eqT;by_cases h:a=0/\b=0/\c=0/\d=0
 ·rw[decide_eq_true h,decide_eq_true (by omega)]
 ·rw[decide_eq_false h,decide_eq_false (by omega)]
theorem jp(a:Int):decide (0=a)=decide (a=0):=by
 by_cases h:a=0
 ·rw[h]
 ·rw[decide_eq_false h,decide_eq_false (fun e=>h e.symm)]
theorem rG(c b:Int)(a:ByteArray):mh 0 0 c b ⟨#[]⟩ a=fr0 c b a:=by
 unfold mh fr0;rw[jp,jp];congr 1
 have e:(⟨#[]⟩:ByteArray).toList=[]:=by unfold ByteArray.toList ByteArray.toList.loop;rfl
 rw[e];by_cases h:a.toList=[]
 ·rw[h]
 ·rw[decide_eq_false h,decide_eq_false (fun e=>h e.symm)]
theorem GN(c a:Int)(b:ByteArray):mh c a c a b b=θ:=by unfold mh;simp
theorem Nm(S:List D3)(A B C D e b c a:Int)(d:ByteArray):ky ⟨1,0,0,0,0,[],0,0,⟨#[]⟩,0,0⟩ ⟨1,A,B,C,D,S,e,b,d,c,a⟩ (noS S)=bA ⟨1,A,B,C,D,S,e,b,d,c,a⟩:=by
 rw[Bq rfl];unfold ky tz iF;dsimp only;rw[uR,rG,jp,jp];simp[Bool.and_assoc]
theorem Nn(S:List D3)(A B C D e b c a:Int)(d:ByteArray)(f:aG A B C D=θ):ky ⟨2,A,B,C,D,[],0,0,⟨#[]⟩,0,0⟩ ⟨2,A,B,C,D,S,e,b,d,c,a⟩ (noS S)=bA ⟨2,A,B,C,D,S,e,b,d,c,a⟩:=by
 rw[uM rfl];unfold ky iF;dsimp only;rw[IW,rG,jp,jp,f];simp[Bool.and_assoc]
theorem No(S:List D3)(A B C D e b c a:Int)(d:ByteArray)(f:aQ S=θ):ky ⟨3,0,0,0,0,S,0,0,⟨#[]⟩,0,0⟩ ⟨3,A,B,C,D,S,e,b,d,c,a⟩ θ=bA ⟨3,A,B,C,D,S,e,b,d,c,a⟩:=by
 rw[oR rfl];unfold ky tz iF;dsimp only;rw[uR,rG,jp,jp,f];simp[Bool.and_assoc]
theorem Np(S:List D3)(A B C D e b c a:Int)(d:ByteArray)(h:dP e b d=θ)(g:bG 0 255 c=θ)(f:bG 1 40 a=θ):ky ⟨4,0,0,0,0,[],e,b,d,c,a⟩ ⟨4,A,B,C,D,S,e,b,d,c,a⟩ (noS S)=bA ⟨4,A,B,C,D,S,e,b,d,c,a⟩:=by
 rw[oS rfl];unfold ky tz;dsimp only;rw[uR,GN,h,g,f];simp
theorem no_2{S:List D3}{A B C D e b c a:Int}{d:ByteArray}(h:aG A B C D=φ):bA ⟨2,A,B,C,D,S,e,b,d,c,a⟩=φ:=by rw[uM rfl];dsimp only;rw[h];rfl
theorem no_3{S:List D3}{A B C D e b c a:Int}{d:ByteArray}(h:aQ S=φ):bA ⟨3,A,B,C,D,S,e,b,d,c,a⟩=φ:=by rw[oR rfl];dsimp only;rw[h];simp
theorem no_4{S:List D3}{A B C D c a e d:Int}{b:ByteArray}(h:dP c a b=φ):bA ⟨4,A,B,C,D,S,c,a,b,e,d⟩=φ:=by rw[oS rfl];dsimp only;rw[h];simp
theorem NO{S:List D3}{A B C D e c a b:Int}{d:ByteArray}(h:bG 0 255 a=φ):bA ⟨4,A,B,C,D,S,e,c,d,a,b⟩=φ:=by rw[oS rfl];dsimp only;rw[h];simp
theorem NN{S:List D3}{A B C D e b c a:Int}{d:ByteArray}(h:bG 1 40 a=φ):bA ⟨4,A,B,C,D,S,e,b,d,c,a⟩=φ:=by rw[oS rfl];dsimp only;rw[h];simp
theorem La(S:List D3)(A B C D wd ht lv fo:Int)(px:ByteArray)(a:Option η)(c:Nat)(p:η)(w:ω)(hn:S.length<=1048576)(hc:S.length<=c)(hc9:c<=9223372036854775807)(hS:bu w a S S.length)(hE:dw p w):
  χ prog 31 #[κ #[J Z 1,J Z A,J Z B,J Z C,J Z D,σ a S.length c,J Z wd,J Z ht,τ px,J Z lv,J Z fo]] w fun e w'=>bm p ⟨1,A,B,C,D,S,wd,ht,px,lv,fo⟩ (σ a S.length c) e/\δ w.1.size w w':=by
 have B0:=yz (an w (ξ #[J Z 1,J Z A,J Z B,J Z C,J Z D,σ a S.length c,J Z wd,J Z ht,τ px,J Z lv,J Z fo] 29));have A0:=yz (aq w [J Z 1,J Z A,J Z B,J Z C,J Z D,σ a S.length c,J Z wd,J Z ht,τ px,J Z lv,J Z fo] 29);obtain⟨y,hy⟩:∃y,ky ⟨1,0,0,0,0,[],0,0,⟨#[]⟩,0,0⟩ ⟨1,A,B,C,D,S,wd,ht,px,lv,fo⟩ (noS S)=y:=⟨_,rfl⟩
 have cM:Hid (∀W:ω,δ w.1.size w W->χ prog 81 #[κ #[J Z 1,J Z 0,J Z 0,J Z 0,J Z 0,σ ν 0 0,J Z 0,J Z 0,τ ⟨#[]⟩,J Z 0,J Z 0],κ #[J Z 1,J Z A,J Z B,J Z C,J Z D,σ a S.length c,J Z wd,J Z ht,τ px,J Z lv,J Z fo]] W fun e w'=>e=ρ (β y)/\δ W.1.size W w'):=yz (fun W hW=>by
  rw[<-hy];refine hH 1 0 0 0 0 0 0 0 0 1 A B C D wd ht lv fo ⟨#[]⟩ px [] S a ν S.length 0 c 0 (noS S) W (fun W2 h2=>?_);by_cases h0:S.length=0
  ·rw[show noS S=θ by unfold noS;simp[h0],h0];exact me [] ν a 0 0 c W2 (by omega) (.inl rfl) (.inl rfl)
  ·rw[show noS S=φ by unfold noS;simp[h0]]
   exact rC ν a 0 S.length 0 c W2 (by omega))
 have HE := yz hE;have hm : ∀ W : World, (method 423 114 (.agg #[]) "loop.example/g00577/impl.command").run Tryz.prog W = .ok (248, .agg #[]) W := fun _ => by kernel_rfl
 have HY:Hid (bA ⟨1,A,B,C,D,S,wd,ht,px,lv,fo⟩=y):=yz (by rw[<-hy];exact(Nm S A B C D wd ht lv fo px).symm);clear hy hS hE;go_enter func31,ntmps31;go_wp2;refine wp_region_held_drew (S:=(fun w'=>w'.cell? ⟨w.1.size,0,ν⟩=ς (J Z 1)/\w'.cell? ⟨w.1.size,1,ν⟩=ς (J Z A)/\w'.cell? ⟨w.1.size,2,ν⟩=ς (J Z B)/\w'.cell? ⟨w.1.size,3,ν⟩=ς (J Z C)/\w'.cell? ⟨w.1.size,4,ν⟩=ς (J Z D)/\w'.cell? ⟨w.1.size,5,ν⟩=ς (σ a S.length c)/\w'.cell? ⟨w.1.size,6,ν⟩=ς (J Z wd)/\w'.cell? ⟨w.1.size,7,ν⟩=ς (J Z ht)/\w'.cell? ⟨w.1.size,8,ν⟩=ς (τ px)/\w'.cell? ⟨w.1.size,9,ν⟩=ς (J Z lv)/\w'.cell? ⟨w.1.size,10,ν⟩=ς (J Z fo))) (by kernel_rfl) ?_ (fun hHeld=>?_)
 ·exact gl (w:=w) (yx A0)
 refine tkO 0 rfl ?_;refine tkO 2 rfl ?_;have Bd:=yz ((yx B0).drew);have Ad:=yz ((yx A0).drewn);generalize hV:World.drew _=V at Bd Ad hHeld ⊢;clear hV;refine rd1 1 rfl fun K hK=>?_;go_simp;refine(qN _).mono ?_;rintro e v1 ⟨rfl,hx⟩;have B1:=aB Bd hx;have A1:=ap Ad hx;clear hx Bd Ad;refine hK.out _ _ (gl (w:=w) (yx A1)) (fun hHeld1=>?_);clear hK K hHeld;refine rd1 3 rfl fun K hK=>?_;go_simp;refine(yx cM _ (yx B1)).mono ?_;rintro e v2 ⟨rfl,hx⟩;have B2:=aB B1 hx;have A2:=ap A1 hx;clear hx B1 A1;refine hK.out _ _ (gl (w:=w) (yx A2)) (fun hHeld2=>?_);clear hK K hHeld1;refine rd1 4 rfl fun K hK=>?_;cases y
 ·have HN:Hid (bm p ⟨1,A,B,C,D,S,wd,ht,px,lv,fo⟩ (σ a S.length c) (em p)):=yz (by unfold bm;rw[yx HY];rfl);go_simp;refine(eU p _ ((yx HE).kept (yx B2))).mono ?_;rintro e v3 ⟨rfl,hw⟩;rw[hw];clear hw v3 hK;exact⟨rfl,yx HN,yx B2⟩
 have HO:Hid (bm p ⟨1,A,B,C,D,S,wd,ht,px,lv,fo⟩ (σ a S.length c) (ρ (.iface 114 (κ #[])))):=yz (by unfold bm;rw[yx HY];rfl);go_simp;refine(eV _).mono ?_;rintro e v3 ⟨rfl,hw⟩;rw[hw];clear hw v3;refine hK.out _ _ (gl (w:=w) (yx A2)) (fun hHeld3=>?_);clear hK K hHeld2;refine rdn ?_;clear hHeld3;go_wp2;go_ret;exact⟨yx HO,yx B2⟩
theorem Lb(S:List D3)(A B C D wd ht lv fo:Int)(px:ByteArray)(a:Option η)(c:Nat)(p:η)(w:ω)(hn:S.length<=1048576)(hc:S.length<=c)(hc9:c<=9223372036854775807)(hS:bu w a S S.length)(hE:dw p w):
  χ prog 31 #[κ #[J Z 2,J Z A,J Z B,J Z C,J Z D,σ a S.length c,J Z wd,J Z ht,τ px,J Z lv,J Z fo]] w fun e w'=>bm p ⟨2,A,B,C,D,S,wd,ht,px,lv,fo⟩ (σ a S.length c) e/\δ w.1.size w w':=by
 have B0:=yz (an w (ξ #[J Z 2,J Z A,J Z B,J Z C,J Z D,σ a S.length c,J Z wd,J Z ht,τ px,J Z lv,J Z fo] 29));have A0:=yz (aq w [J Z 2,J Z A,J Z B,J Z C,J Z D,σ a S.length c,J Z wd,J Z ht,τ px,J Z lv,J Z fo] 29);obtain⟨y,hy⟩:∃y,ky ⟨2,A,B,C,D,[],0,0,⟨#[]⟩,0,0⟩ ⟨2,A,B,C,D,S,wd,ht,px,lv,fo⟩ (noS S)=y:=⟨_,rfl⟩
 have cM:Hid (∀W:ω,δ w.1.size w W->χ prog 81 #[κ #[J Z 2,J Z A,J Z B,J Z C,J Z D,σ ν 0 0,J Z 0,J Z 0,τ ⟨#[]⟩,J Z 0,J Z 0],κ #[J Z 2,J Z A,J Z B,J Z C,J Z D,σ a S.length c,J Z wd,J Z ht,τ px,J Z lv,J Z fo]] W fun e w'=>e=ρ (β y)/\δ W.1.size W w'):=yz (fun W hW=>by
  rw[<-hy];refine hH 2 A B C D 0 0 0 0 2 A B C D wd ht lv fo ⟨#[]⟩ px [] S a ν S.length 0 c 0 (noS S) W (fun W2 h2=>?_);by_cases h0:S.length=0
  ·rw[show noS S=θ by unfold noS;simp[h0],h0];exact me [] ν a 0 0 c W2 (by omega) (.inl rfl) (.inl rfl)
  ·rw[show noS S=φ by unfold noS;simp[h0]]
   exact rC ν a 0 S.length 0 c W2 (by omega))
 have HE := yz hE;have hm : ∀ W : World, (method 423 117 (.agg #[J Z A, J Z B, J Z C, J Z D]) "loop.example/g00577/impl.command").run Tryz.prog W = .ok (250, .agg #[J Z A, J Z B, J Z C, J Z D]) W := fun _ => by kernel_rfl
 go_enter func31,ntmps31;go_wp2_with fail;refine(dg A B C D _).mono ?_;rintro e u1 ⟨rfl,hx⟩;have B1:=aB B0 hx;have A1:=ap A0 hx;clear hx A0 B0;cases hr:aG A B C D
 ·skip;have HN:Hid (bm p ⟨2,A,B,C,D,S,wd,ht,px,lv,fo⟩ (σ a S.length c) (em p)):=yz (by unfold bm;rw[no_2 hr];rfl);go_wp2_with fail;refine(eU p _ ((yx HE).kept (yx B1))).mono ?_;rintro e v3 ⟨rfl,hw⟩;rw[hw];clear hw v3;exact⟨rfl,yx HN,yx B1⟩
 have HY:Hid (bA ⟨2,A,B,C,D,S,wd,ht,px,lv,fo⟩=y):=yz (by rw[<-hy];exact(Nn S A B C D wd ht lv fo px hr).symm);clear hy hS hE hr;go_wp2_with fail;refine(eV _).mono ?_;rintro e v3 ⟨rfl,hw⟩;rw[hw];clear hw v3;have q0:=bV (yx A1);go_wp2_with fail;clear q0;refine wp_region_held_drew (S:=(fun w'=>w'.cell? ⟨w.1.size,0,ν⟩=ς (J Z 2)/\w'.cell? ⟨w.1.size,1,ν⟩=ς (J Z A)/\w'.cell? ⟨w.1.size,2,ν⟩=ς (J Z B)/\w'.cell? ⟨w.1.size,3,ν⟩=ς (J Z C)/\w'.cell? ⟨w.1.size,4,ν⟩=ς (J Z D)/\w'.cell? ⟨w.1.size,5,ν⟩=ς (σ a S.length c)/\w'.cell? ⟨w.1.size,6,ν⟩=ς (J Z wd)/\w'.cell? ⟨w.1.size,7,ν⟩=ς (J Z ht)/\w'.cell? ⟨w.1.size,8,ν⟩=ς (τ px)/\w'.cell? ⟨w.1.size,9,ν⟩=ς (J Z lv)/\w'.cell? ⟨w.1.size,10,ν⟩=ς (J Z fo))) (by kernel_rfl) ?_ (fun hHeld=>?_)
 ·exact gl (w:=w) (yx A1)
 refine tkO 0 rfl ?_;refine tkO 2 rfl ?_;have Bd:=yz ((yx B1).drew);have Ad:=yz ((yx A1).drewn);generalize hV:World.drew _=V at Bd Ad hHeld ⊢;clear hV;refine rd1 1 rfl fun K hK=>?_;go_simp;refine(sL A B C D _).mono ?_;rintro e v1 ⟨rfl,hx⟩;have B1:=aB Bd hx;have A1:=ap Ad hx;clear hx Bd Ad;refine hK.out _ _ (gl (w:=w) (yx A1)) (fun hHeld1=>?_);clear hK K hHeld;refine rd1 3 rfl fun K hK=>?_;go_simp;refine(yx cM _ (yx B1)).mono ?_;rintro e v2 ⟨rfl,hx⟩;have B2:=aB B1 hx;have A2:=ap A1 hx;clear hx B1 A1;refine hK.out _ _ (gl (w:=w) (yx A2)) (fun hHeld2=>?_);clear hK K hHeld1;refine rd1 4 rfl fun K hK=>?_;cases y
 ·have HN:Hid (bm p ⟨2,A,B,C,D,S,wd,ht,px,lv,fo⟩ (σ a S.length c) (em p)):=yz (by unfold bm;rw[yx HY];rfl);go_simp;refine(eU p _ ((yx HE).kept (yx B2))).mono ?_;rintro e v3 ⟨rfl,hw⟩;rw[hw];clear hw v3 hK;exact⟨rfl,yx HN,yx B2⟩
 have HO:Hid (bm p ⟨2,A,B,C,D,S,wd,ht,px,lv,fo⟩ (σ a S.length c) (ρ (.iface 117 (κ #[J Z A,J Z B,J Z C,J Z D])))):=yz (by unfold bm;rw[yx HY];rfl);go_simp;refine(eV _).mono ?_;rintro e v3 ⟨rfl,hw⟩;rw[hw];clear hw v3;refine hK.out _ _ (gl (w:=w) (yx A2)) (fun hHeld3=>?_);clear hK K hHeld2;refine rdn ?_;clear hHeld3;go_wp2;go_ret;exact⟨yx HO,yx B2⟩
theorem Lc(S:List D3)(A B C D wd ht lv fo:Int)(px:ByteArray)(a:Option η)(c:Nat)(p:η)(w:ω)(hn:S.length<=1048576)(hc:S.length<=c)(hc9:c<=9223372036854775807)(hS:bu w a S S.length)(hE:dw p w):
  χ prog 31 #[κ #[J Z 3,J Z A,J Z B,J Z C,J Z D,σ a S.length c,J Z wd,J Z ht,τ px,J Z lv,J Z fo]] w fun e w'=>bm p ⟨3,A,B,C,D,S,wd,ht,px,lv,fo⟩ (σ a S.length c) e/\δ w.1.size w w':=by
 have B0:=yz (an w (ξ #[J Z 3,J Z A,J Z B,J Z C,J Z D,σ a S.length c,J Z wd,J Z ht,τ px,J Z lv,J Z fo] 29));have A0:=yz (aq w [J Z 3,J Z A,J Z B,J Z C,J Z D,σ a S.length c,J Z wd,J Z ht,τ px,J Z lv,J Z fo] 29);obtain⟨y,hy⟩:∃y,ky ⟨3,0,0,0,0,S,0,0,⟨#[]⟩,0,0⟩ ⟨3,A,B,C,D,S,wd,ht,px,lv,fo⟩ (θ)=y:=⟨_,rfl⟩
 have cM:Hid (∀W:ω,δ w.1.size w W->χ prog 81 #[κ #[J Z 3,J Z 0,J Z 0,J Z 0,J Z 0,σ a S.length c,J Z 0,J Z 0,τ ⟨#[]⟩,J Z 0,J Z 0],κ #[J Z 3,J Z A,J Z B,J Z C,J Z D,σ a S.length c,J Z wd,J Z ht,τ px,J Z lv,J Z fo]] W fun e w'=>e=ρ (β y)/\δ W.1.size W w'):=yz (fun W hW=>by
  rw[<-hy];refine hH 3 0 0 0 0 0 0 0 0 3 A B C D wd ht lv fo ⟨#[]⟩ px S S a a S.length S.length c c (θ) W (fun W2 h2=>?_)
  exact me S a a S.length c c W2 hn ((hS.kept hW).kept h2) ((hS.kept hW).kept h2))
 have HE := yz hE;have hm : ∀ W : World, (method 423 119 (.agg #[.slice a S.length c]) "loop.example/g00577/impl.command").run Tryz.prog W = .ok (252, .agg #[.slice a S.length c]) W := fun _ => by kernel_rfl
 have cP:=yz (gx S a c _ hn hc hc9 (hS.kept (yx B0)));go_enter func31,ntmps31;go_wp2_with fail;refine(yx cP).mono ?_;rintro e u1 ⟨rfl,hx⟩;have B1:=aB B0 hx;have A1:=ap A0 hx;clear hx A0 B0;cases hr:aQ S
 ·skip;have HN:Hid (bm p ⟨3,A,B,C,D,S,wd,ht,px,lv,fo⟩ (σ a S.length c) (em p)):=yz (by unfold bm;rw[no_3 hr];rfl);go_wp2_with fail;refine(eU p _ ((yx HE).kept (yx B1))).mono ?_;rintro e v3 ⟨rfl,hw⟩;rw[hw];clear hw v3;exact⟨rfl,yx HN,yx B1⟩
 have HY:Hid (bA ⟨3,A,B,C,D,S,wd,ht,px,lv,fo⟩=y):=yz (by rw[<-hy];exact(No S A B C D wd ht lv fo px hr).symm);clear hy hS hE hr;go_wp2_with fail;refine(eV _).mono ?_;rintro e v3 ⟨rfl,hw⟩;rw[hw];clear hw v3;have q0:=bV (yx A1);go_wp2_with fail;clear q0;refine wp_region_held_drew (S:=(fun w'=>w'.cell? ⟨w.1.size,0,ν⟩=ς (J Z 3)/\w'.cell? ⟨w.1.size,1,ν⟩=ς (J Z A)/\w'.cell? ⟨w.1.size,2,ν⟩=ς (J Z B)/\w'.cell? ⟨w.1.size,3,ν⟩=ς (J Z C)/\w'.cell? ⟨w.1.size,4,ν⟩=ς (J Z D)/\w'.cell? ⟨w.1.size,5,ν⟩=ς (σ a S.length c)/\w'.cell? ⟨w.1.size,6,ν⟩=ς (J Z wd)/\w'.cell? ⟨w.1.size,7,ν⟩=ς (J Z ht)/\w'.cell? ⟨w.1.size,8,ν⟩=ς (τ px)/\w'.cell? ⟨w.1.size,9,ν⟩=ς (J Z lv)/\w'.cell? ⟨w.1.size,10,ν⟩=ς (J Z fo))) (by kernel_rfl) ?_ (fun hHeld=>?_)
 ·exact gl (w:=w) (yx A1)
 refine tkO 0 rfl ?_;refine tkO 2 rfl ?_;have Bd:=yz ((yx B1).drew);have Ad:=yz ((yx A1).drewn);generalize hV:World.drew _=V at Bd Ad hHeld ⊢;clear hV;refine rd1 1 rfl fun K hK=>?_;go_simp;refine(sU a S.length c _).mono ?_;rintro e v1 ⟨rfl,hx⟩;have B1:=aB Bd hx;have A1:=ap Ad hx;clear hx Bd Ad;refine hK.out _ _ (gl (w:=w) (yx A1)) (fun hHeld1=>?_);clear hK K hHeld;refine rd1 3 rfl fun K hK=>?_;go_simp;refine(yx cM _ (yx B1)).mono ?_;rintro e v2 ⟨rfl,hx⟩;have B2:=aB B1 hx;have A2:=ap A1 hx;clear hx B1 A1;refine hK.out _ _ (gl (w:=w) (yx A2)) (fun hHeld2=>?_);clear hK K hHeld1;refine rd1 4 rfl fun K hK=>?_;cases y
 ·have HN:Hid (bm p ⟨3,A,B,C,D,S,wd,ht,px,lv,fo⟩ (σ a S.length c) (em p)):=yz (by unfold bm;rw[yx HY];rfl);go_simp;refine(eU p _ ((yx HE).kept (yx B2))).mono ?_;rintro e v3 ⟨rfl,hw⟩;rw[hw];clear hw v3 hK;exact⟨rfl,yx HN,yx B2⟩
 have HO:Hid (bm p ⟨3,A,B,C,D,S,wd,ht,px,lv,fo⟩ (σ a S.length c) (ρ (.iface 119 (κ #[σ a S.length c])))):=yz (by unfold bm;rw[yx HY];rfl);go_simp;refine(eV _).mono ?_;rintro e v3 ⟨rfl,hw⟩;rw[hw];clear hw v3;refine hK.out _ _ (gl (w:=w) (yx A2)) (fun hHeld3=>?_);clear hK K hHeld2;refine rdn ?_;clear hHeld3;go_wp2;go_ret;exact⟨yx HO,yx B2⟩
theorem Ld(S:List D3)(A B C D wd ht lv fo:Int)(px:ByteArray)(a:Option η)(c:Nat)(p:η)(w:ω)(hn:S.length<=1048576)(hc:S.length<=c)(hc9:c<=9223372036854775807)(hS:bu w a S S.length)(hE:dw p w):
  χ prog 31 #[κ #[J Z 4,J Z A,J Z B,J Z C,J Z D,σ a S.length c,J Z wd,J Z ht,τ px,J Z lv,J Z fo]] w fun e w'=>bm p ⟨4,A,B,C,D,S,wd,ht,px,lv,fo⟩ (σ a S.length c) e/\δ w.1.size w w':=by
 have B0:=yz (an w (ξ #[J Z 4,J Z A,J Z B,J Z C,J Z D,σ a S.length c,J Z wd,J Z ht,τ px,J Z lv,J Z fo] 29));have A0:=yz (aq w [J Z 4,J Z A,J Z B,J Z C,J Z D,σ a S.length c,J Z wd,J Z ht,τ px,J Z lv,J Z fo] 29);obtain⟨y,hy⟩:∃y,ky ⟨4,0,0,0,0,[],wd,ht,px,lv,fo⟩ ⟨4,A,B,C,D,S,wd,ht,px,lv,fo⟩ (noS S)=y:=⟨_,rfl⟩
 have cM:Hid (∀W:ω,δ w.1.size w W->χ prog 81 #[κ #[J Z 4,J Z 0,J Z 0,J Z 0,J Z 0,σ ν 0 0,J Z wd,J Z ht,τ px,J Z lv,J Z fo],κ #[J Z 4,J Z A,J Z B,J Z C,J Z D,σ a S.length c,J Z wd,J Z ht,τ px,J Z lv,J Z fo]] W fun e w'=>e=ρ (β y)/\δ W.1.size W w'):=yz (fun W hW=>by
  rw[<-hy];refine hH 4 0 0 0 0 wd ht lv fo 4 A B C D wd ht lv fo px px [] S a ν S.length 0 c 0 (noS S) W (fun W2 h2=>?_);by_cases h0:S.length=0
  ·rw[show noS S=θ by unfold noS;simp[h0],h0];exact me [] ν a 0 0 c W2 (by omega) (.inl rfl) (.inl rfl)
  ·rw[show noS S=φ by unfold noS;simp[h0]]
   exact rC ν a 0 S.length 0 c W2 (by omega))
 have HE := yz hE;have hm : ∀ W : World, (method 423 121 (.agg #[J Z wd, J Z ht, .string px, J Z lv, J Z fo]) "loop.example/g00577/impl.command").run Tryz.prog W = .ok (254, .agg #[J Z wd, J Z ht, .string px, J Z lv, J Z fo]) W := fun _ => by kernel_rfl
 go_enter func31,ntmps31;go_wp2_with fail;refine(kl wd ht px _).mono ?_;rintro e u1 ⟨rfl,hx⟩;have B1:=aB B0 hx;have A1:=ap A0 hx;clear hx A0 B0;cases hr:dP wd ht px
 ·skip;have HN:Hid (bm p ⟨4,A,B,C,D,S,wd,ht,px,lv,fo⟩ (σ a S.length c) (em p)):=yz (by unfold bm;rw[no_4 hr];rfl);go_wp2_with fail;refine(eU p _ ((yx HE).kept (yx B1))).mono ?_;rintro e v3 ⟨rfl,hw⟩;rw[hw];clear hw v3;exact⟨rfl,yx HN,yx B1⟩
 have q0:=bV (yx A1);go_wp2_with fail;refine(Jq lv _).mono ?_;rintro e v3 ⟨rfl,hw⟩;rw[hw];clear hw v3;cases hl:bG 0 255 lv
 ·skip;have HN:Hid (bm p ⟨4,A,B,C,D,S,wd,ht,px,lv,fo⟩ (σ a S.length c) (em p)):=yz (by unfold bm;rw[NO hl];rfl);go_wp2_with fail;refine(eU p _ ((yx HE).kept (yx B1))).mono ?_;rintro e v3 ⟨rfl,hw⟩;rw[hw];clear hw v3;exact⟨rfl,yx HN,yx B1⟩
 go_wp2_with fail;refine(Jp fo _).mono ?_;rintro e v3 ⟨rfl,hw⟩;rw[hw];clear hw v3;cases hf:bG 1 40 fo
 ·skip;have HN:Hid (bm p ⟨4,A,B,C,D,S,wd,ht,px,lv,fo⟩ (σ a S.length c) (em p)):=yz (by unfold bm;rw[NN hf];rfl);go_wp2_with fail;refine(eU p _ ((yx HE).kept (yx B1))).mono ?_;rintro e v3 ⟨rfl,hw⟩;rw[hw];clear hw v3;exact⟨rfl,yx HN,yx B1⟩
 clear q0;have HY:Hid (bA ⟨4,A,B,C,D,S,wd,ht,px,lv,fo⟩=y):=yz (by rw[<-hy];exact(Np S A B C D wd ht lv fo px hr hl hf).symm);clear hy hS hE hr hl hf;go_wp2_with fail;refine(eV _).mono ?_;rintro e v3 ⟨rfl,hw⟩;rw[hw];clear hw v3;have q0:=bV (yx A1);go_wp2_with fail;clear q0;refine wp_region_held_drew (S:=(fun w'=>w'.cell? ⟨w.1.size,0,ν⟩=ς (J Z 4)/\w'.cell? ⟨w.1.size,1,ν⟩=ς (J Z A)/\w'.cell? ⟨w.1.size,2,ν⟩=ς (J Z B)/\w'.cell? ⟨w.1.size,3,ν⟩=ς (J Z C)/\w'.cell? ⟨w.1.size,4,ν⟩=ς (J Z D)/\w'.cell? ⟨w.1.size,5,ν⟩=ς (σ a S.length c)/\w'.cell? ⟨w.1.size,6,ν⟩=ς (J Z wd)/\w'.cell? ⟨w.1.size,7,ν⟩=ς (J Z ht)/\w'.cell? ⟨w.1.size,8,ν⟩=ς (τ px)/\w'.cell? ⟨w.1.size,9,ν⟩=ς (J Z lv)/\w'.cell? ⟨w.1.size,10,ν⟩=ς (J Z fo))) (by kernel_rfl) ?_ (fun hHeld=>?_)
 ·exact gl (w:=w) (yx A1)
 refine tkO 0 rfl ?_;refine tkO 2 rfl ?_;have Bd:=yz ((yx B1).drew);have Ad:=yz ((yx A1).drewn);generalize hV:World.drew _=V at Bd Ad hHeld ⊢;clear hV;refine rd1 1 rfl fun K hK=>?_;go_simp;refine(qo wd ht lv fo px _).mono ?_;rintro e v1 ⟨rfl,hx⟩;have B1:=aB Bd hx;have A1:=ap Ad hx;clear hx Bd Ad;refine hK.out _ _ (gl (w:=w) (yx A1)) (fun hHeld1=>?_);clear hK K hHeld;refine rd1 3 rfl fun K hK=>?_;go_simp;refine(yx cM _ (yx B1)).mono ?_;rintro e v2 ⟨rfl,hx⟩;have B2:=aB B1 hx;have A2:=ap A1 hx;clear hx B1 A1;refine hK.out _ _ (gl (w:=w) (yx A2)) (fun hHeld2=>?_);clear hK K hHeld1;refine rd1 4 rfl fun K hK=>?_;cases y
 ·have HN:Hid (bm p ⟨4,A,B,C,D,S,wd,ht,px,lv,fo⟩ (σ a S.length c) (em p)):=yz (by unfold bm;rw[yx HY];rfl);go_simp;refine(eU p _ ((yx HE).kept (yx B2))).mono ?_;rintro e v3 ⟨rfl,hw⟩;rw[hw];clear hw v3 hK;exact⟨rfl,yx HN,yx B2⟩
 have HO:Hid (bm p ⟨4,A,B,C,D,S,wd,ht,px,lv,fo⟩ (σ a S.length c) (ρ (.iface 121 (κ #[J Z wd,J Z ht,τ px,J Z lv,J Z fo])))):=yz (by unfold bm;rw[yx HY];rfl);go_simp;refine(eV _).mono ?_;rintro e v3 ⟨rfl,hw⟩;rw[hw];clear hw v3;refine hK.out _ _ (gl (w:=w) (yx A2)) (fun hHeld3=>?_);clear hK K hHeld2;refine rdn ?_;clear hHeld3;go_wp2;go_ret;exact⟨yx HO,yx B2⟩
theorem Le(S:List D3)(b A B C D i f g d:Int)(h:ByteArray)(a:Option η)(c:Nat)(p:η)(w:ω)(n:b≠1)(o:b≠2)(q:b≠3)(r:b≠4)(k:dw p w):
  χ prog 31 #[κ #[J Z b,J Z A,J Z B,J Z C,J Z D,σ a S.length c,J Z i,J Z f,τ h,J Z g,J Z d]] w fun e s=>bm p ⟨b,A,B,C,D,S,i,f,h,g,d⟩ (σ a S.length c) e/\δ w.1.size w s:=by
 have j:=yz (an w (ξ #[J Z b,J Z A,J Z B,J Z C,J Z D,σ a S.length c,J Z i,J Z f,τ h,J Z g,J Z d] 29));have l:=k.kept (yx j);unfold dw at l;have m:Hid (bm p ⟨b,A,B,C,D,S,i,f,h,g,d⟩ (σ a S.length c) (em p)):=yz (by unfold bm;rw[Fw n o q r];rfl);clear k;go_enter func31,ntmps31;go_wp2_with fail;exact⟨rfl,yx m,yx j⟩
theorem mN(S:List D3)(b A B C D j g h f:Int)(i:ByteArray)(a:Option η)(c:Nat)(p:η)(w:ω)(n:S.length<=1048576)(m:S.length<=c)(d:c<=9223372036854775807)(l:bu w a S S.length)(k:dw p w):
  χ prog 31 #[κ #[J Z b,J Z A,J Z B,J Z C,J Z D,σ a S.length c,J Z j,J Z g,τ i,J Z h,J Z f]] w fun e t=>bm p ⟨b,A,B,C,D,S,j,g,i,h,f⟩ (σ a S.length c) e/\δ w.1.size w t:=by
 by_cases o:b=1
 ·subst o;exact La S A B C D j g h f i a c p w n m d l k
 by_cases q:b=2
 ·subst q;exact Lb S A B C D j g h f i a c p w n m d l k
 by_cases r:b=3
 ·subst r;exact Lc S A B C D j g h f i a c p w n m d l k
 by_cases s:b=4
 ·subst s;exact Ld S A B C D j g h f i a c p w n m d l k
 exact Le S b A B C D j g h f i a c p w o q r s k
theorem oY(a:ByteArray)(w:ω)(l:a.size<=100000):
  χ prog 87 #[τ a] w fun e k=>e=ρ (τ a)/\δ w.1.size w k:=by
 obtain⟨M,h,j⟩:=Am a.size (by omega);have b:(prog.info? 5).map (·.size)=ς 1:=by kernel_rfl
 have f:=Lib.run_copy_row_string (P:=prog) (w.alloc (ξ M 5)) 22 9 3 5 w.1.size 0 a.size a.size a M 5 underlying22 b (heap_alloc_new w _) (by omega) (by omega);rw[jL]at f;obtain⟨g,d⟩:∃Y,Y=(M.toList.take 0 ++ Lib.byteCells a.data.toList ++ M.toList.drop (0+a.size)).toArray:=⟨_,rfl⟩
 rw[<-d]at f;have c:g.toList=Lib.byteCells a.data.toList:=by rw[d];simp[<-h]
 have i:=od w 5 g a c a.size;clear d c b h;go_enter func87,ntmps87;go_wp2;go_ret;exact⟨rfl,(ϒ _ _).alloc (ώ _) _⟩
section
theorem lA(s:ByteArray):(s.extract 0 (s.size-4)).size=s.size-4:=by simp
variable {a b:ByteArray}
theorem KO(h:a=b):(a.toList==b.toList)=θ:=by subst h;simp
theorem EU(h:a≠b):(a.toList==b.toList)=φ:=by
 rw[ByteArray.toList_eq,ByteArray.toList_eq];simp;intro e;exact h (ByteArray.ext e)
theorem Nq(s:ByteArray):s.extract 0 (s.size-4) ++ s.extract (s.size-4) s.size=s:=by
 simp
theorem CY(s:ByteArray)(h:4<=s.size)(f:s.size<=8000):bh (s.extract 0 (s.size-4))=s↔tr (jD 0 (s.extract 0 (s.size-4)):Nat)=s.extract (s.size-4) s.size:=by
 have d:=lA s;have c:=Nq s;generalize s.extract 0 (s.size-4)=b at *;generalize s.extract (s.size-4) s.size=t at *;have e:bh b=b ++ tr (jD 0 b:Nat):=by simp[bh];intro;omega
 rw[e];constructor
 ·intro a;rw[<-c]at a;exact(ByteArray.append_right_inj _).1 a
 ·intro a;rw[a];exact c
theorem Gd{w b:ω}{T:TypeId}(c:δ (w.alloc (ξ #[τ ⟨#[]⟩,J Z 0,J Z 0] T)).1.size (w.alloc (ξ #[τ ⟨#[]⟩,J Z 0,J Z 0] T)) b):
  b.cell? ⟨w.1.size,0,ν⟩=ς (τ ⟨#[]⟩)/\b.cell? ⟨w.1.size,1,ν⟩=ς (J Z 0)/\b.cell? ⟨w.1.size,2,ν⟩=ς (J Z 0) /\
  b.frozen? ⟨w.1.size,0,ν⟩=φ/\b.frozen? ⟨w.1.size,1,ν⟩=φ/\b.frozen? ⟨w.1.size,2,ν⟩=φ/\w.1.size<b.1.size/\δ w.1.size w b:=by
 have a:w.1.size<(w.alloc (ξ #[τ ⟨#[]⟩,J Z 0,J Z 0] T)).1.size:=by simp
 refine⟨?_,?_,?_,?_,?_,?_,Nat.lt_of_lt_of_le a c.size,((ϒ _ w).alloc (ώ _) _).trans (c.mono (Nat.le_of_lt a))⟩
 ·rw[c.cell (p:=⟨w.1.size,0,ν⟩) a];simp
 ·rw[c.cell (p:=⟨w.1.size,1,ν⟩) a];simp
 ·rw[c.cell (p:=⟨w.1.size,2,ν⟩) a];simp
 ·rw[c.frozen (p:=⟨w.1.size,0,ν⟩) a];simp
 ·rw[c.frozen (p:=⟨w.1.size,1,ν⟩) a];simp
 ·rw[c.frozen (p:=⟨w.1.size,2,ν⟩) a];simp
theorem xN(s:ByteArray)(w:ω)(x:s.size<=8000)(h:4<=s.size)(d:tr (jD 0 (s.extract 0 (s.size-4)):Nat)=s.extract (s.size-4) s.size):
  χ prog 38 #[τ s] w fun e b=>e=ρ (κ #[τ (s.extract 0 (s.size-4)),J Z 0,J Z 0])/\δ w.1.size w b:=by
 have r:(4:Int)<=(s.size:Int):=by omega
 have t:(s.size:Int)-4<=(s.size:Int):=by omega
 have n:IntKind.i64.wrap ((s.size:Int)-4)=(s.size:Int)-4:=by rw[IntKind.wrap_i64];omega
 have u:((s.size:Int)-4).toNat=s.size-4:=by omega
 have a:=lA s;have l:=qi (c:=0) (s.extract 0 (s.size-4)) (by omega);have j:(s.extract 0 (s.size-4)).size<=8000:=by omega
 have m:=KO d;clear d a;go_enter func38,ntmps38;go_wp2_with fail;go_region_with (first | (go_at_call 86;refine(po 0 _ _ (by omega) j).mono ?_;rintro e b ⟨rfl,rfl⟩) | (go_at_call 85;refine(nC _ _ l).mono ?_;rintro e b ⟨rfl,a⟩))
 obtain⟨f,g,i,o,p,q,y,k⟩:=Gd ((ϒ _ _).drew.trans a);clear a;go_wp2;exact ϋ (v:=κ #[τ (s.extract 0 (s.size-4)),J Z 0,J Z 0]) (by simp[results,results38,go_sem,f,g,i]) rfl ⟨rfl,((k.setCell (by simp) _).setCell (by simp) _).setCell (by simp) _⟩
theorem wJ(s:ByteArray)(w:ω)(x:s.size<=8000)(h:4<=s.size)(d:tr (jD 0 (s.extract 0 (s.size-4)):Nat)≠s.extract (s.size-4) s.size):
  χ prog 38 #[τ s] w fun e b=>e=ρ (κ #[τ ⟨#[]⟩,J Z 0,J Z 5])/\δ w.1.size w b:=by
 have r:(4:Int)<=(s.size:Int):=by omega
 have t:(s.size:Int)-4<=(s.size:Int):=by omega
 have n:IntKind.i64.wrap ((s.size:Int)-4)=(s.size:Int)-4:=by rw[IntKind.wrap_i64];omega
 have u:((s.size:Int)-4).toNat=s.size-4:=by omega
 have a:=lA s;have l:=qi (c:=0) (s.extract 0 (s.size-4)) (by omega);have j:(s.extract 0 (s.size-4)).size<=8000:=by omega
 have m:=EU d;clear d a;go_enter func38,ntmps38;go_wp2_with fail;go_region_with (first | (go_at_call 86;refine(po 0 _ _ (by omega) j).mono ?_;rintro e b ⟨rfl,rfl⟩) | (go_at_call 85;refine(nC _ _ l).mono ?_;rintro e b ⟨rfl,a⟩))
 obtain⟨f,g,i,o,p,q,y,k⟩:=Gd ((ϒ _ _).drew.trans a);clear a;go_wp2;exact ϋ (v:=κ #[τ ⟨#[]⟩,J Z 0,J Z 5]) (by simp[results,results38,go_sem,f,g,i]) rfl ⟨rfl,((k.setCell (by simp) _).setCell (by simp) _).setCell (by simp) _⟩
theorem xO(s:ByteArray)(w:ω)(b:s.size<=1048576)(h:8000<s.size):
  χ prog 38 #[τ s] w fun e a=>e=ρ (κ #[τ ⟨#[]⟩,J Z 0,J Z 2])/\δ w.1.size w a:=by
 go_enter func38,ntmps38;go_wp2;exact ϋ (v:=κ #[τ ⟨#[]⟩,J Z 0,J Z 2]) (by simp[results,results38,go_sem]) rfl ⟨rfl,(ϒ _ _).alloc (ώ _) _⟩
theorem sl(s:ByteArray)(w:ω)(h:s.size<4):
  χ prog 38 #[τ s] w fun e a=>e=ρ (κ #[τ ⟨#[]⟩,J Z 0,J Z 4])/\δ w.1.size w a:=by
 go_enter func38,ntmps38;go_wp2;exact ϋ (v:=κ #[τ ⟨#[]⟩,J Z 0,J Z 4]) (by simp[results,results38,go_sem]) rfl ⟨rfl,(ϒ _ _).alloc (ώ _) _⟩
theorem xw(s:ByteArray)(w:ω)(b:s.size<=1048576)(h:8000<s.size):
  χ prog 40 #[τ s] w fun e a=>e=ρ (κ #[τ ⟨#[]⟩,J Z 0,J Z 2])/\δ w.1.size w a:=by
 go_enter func40,ntmps40;go_wp2;exact ϋ (v:=κ #[τ ⟨#[]⟩,J Z 0,J Z 2]) (by simp[results,results40,go_sem]) rfl ⟨rfl,(ϒ _ _).alloc (ώ _) _⟩
theorem rK(s:ByteArray)(w:ω)(h:s.size<4):
  χ prog 40 #[τ s] w fun e a=>e=ρ (κ #[τ ⟨#[]⟩,J Z 0,J Z 4])/\δ w.1.size w a:=by
 go_enter func40,ntmps40;go_wp2;exact ϋ (v:=κ #[τ ⟨#[]⟩,J Z 0,J Z 4]) (by simp[results,results40,go_sem]) rfl ⟨rfl,(ϒ _ _).alloc (ώ _) _⟩
theorem vD(s:ByteArray)(w:ω)(o:s.size<=8000)(h:4<=s.size)(b:bh (s.extract 0 (s.size-4))≠s):
  χ prog 40 #[τ s] w fun e k=>e=ρ (κ #[τ ⟨#[]⟩,J Z 0,J Z 5])/\δ w.1.size w k:=by
 have a:=lA s;have g:(s.extract 0 (s.size-4)).size<=1048576:=by omega
 have j:=EU b;clear b a;go_enter func40,ntmps40;go_wp2_with fail;refine(jI _ _ g).mono ?_;rintro e q ⟨rfl,a⟩;obtain⟨c,d,f,l,m,n,p,i⟩:=Gd a;clear a;go_wp2;exact ϋ (v:=κ #[τ ⟨#[]⟩,J Z 0,J Z 5]) (by simp[results,results40,go_sem,c,d,f]) rfl ⟨rfl,((i.setCell (by simp) _).setCell (by simp) _).setCell (by simp) _⟩
theorem xv(s:ByteArray)(w:ω)(q:s.size<=8000)(h:4<=s.size)(c:bh (s.extract 0 (s.size-4))=s):
  χ prog 40 #[τ s] w fun e m=>e=ρ (κ #[τ (s.extract 0 (s.size-4)),J Z 0,J Z 0])/\δ w.1.size w m:=by
 have a:=lA s;have i:(s.extract 0 (s.size-4)).size<=1048576:=by omega
 have j:(s.extract 0 (s.size-4)).size<=100000:=by omega
 have l:=KO c;clear c a;go_enter func40,ntmps40;go_wp2_with fail;refine(jI _ _ i).mono ?_;rintro e t ⟨rfl,a⟩;go_wp2_with fail;refine(oY _ _ j).mono ?_;rintro e u ⟨rfl,b⟩;obtain⟨d,f,g,n,o,p,r,k⟩:=Gd (a.trans (b.mono a.size));clear a b;go_wp2;exact ϋ (v:=κ #[τ (s.extract 0 (s.size-4)),J Z 0,J Z 0]) (by simp[results,results40,go_sem,d,f,g]) rfl ⟨rfl,((k.setCell (by simp) _).setCell (by simp) _).setCell (by simp) _⟩
end
theorem ry(u:TypeId)(c:μ)(a:List PanicEntry)(w:ω):
  CallsD prog 57 #[] (.panicking ({ v:=.iface u c,recovered:=φ } :: a)) w fun e f g=>
   e=ρ (.tuple #[])/\f=.panicking ({ v:=.iface u c,recovered:=θ } :: a)/\g=w:=by
 refine callsD_of_wpS func57 rfl fun b h d=>?_;apply wpS_region;simp[wpOpsS,go_sem,recoverD,d,ntmps57,Exit.thenS,bodyPostS,results,results57]
theorem Bn(w:ω):
  CallsD prog 57 #[] .returning w fun e b c=>e=ρ (.tuple #[])/\b=.returning/\c=w:=by
 refine callsD_of_wpS func57 rfl fun a d f=>?_;apply wpS_region;cases a;simp_all [wpOpsS,go_sem,recoverD,ntmps57,Exit.thenS,bodyPostS,results,results57]
theorem nA(S:List D3)(b A B C D m j k h:Int)(l:ByteArray)(a:Option η)(c:Nat)(p:η)(w:ω)(E:S.length<=1048576)(y:S.length<=c)(q:c<=9223372036854775807)(v:bu w a S S.length)(u:dw p w):
  χ prog 14 #[κ #[J Z b,J Z A,J Z B,J Z C,J Z D,σ a S.length c,J Z m,J Z j,τ l,J Z k,J Z h]] w fun e G=>e=ρ (β (bA ⟨b,A,B,C,D,S,m,j,l,k,h⟩))/\δ w.1.size w G:=by
 have n:=yz (an w (ξ #[J Z b,J Z A,J Z B,J Z C,J Z D,σ a S.length c,J Z m,J Z j,τ l,J Z k,J Z h] 29));have cW:=yz (mN S b A B C D m j k h l a c p _ E y q (v.kept (yx n)) (u.kept (yx n)));clear v u;have z:∀(t:Fn) (first g:Array μ) (w:ω),(Instr.makeFunc t first g).run prog w=.ok (.func t first g) w:=fun _ _ _ _=>rfl;go_enter_defers func14,ntmps14
 go_wp2_with fail;refine(yx cW).mono ?_;rintro e H ⟨i,x⟩;have s:=aB n x;clear x cW n;unfold bm at i;cases o:bA ⟨b,A,B,C,D,S,m,j,l,k,h⟩
 ·rw[o]at i;have d:e=em p:=i;subst d;unfold em;go_wp2_with fail;refine leaves_cons (f:=57) (args:=#[]) (by simp) (by simp[go_sem]) ?_;refine(ry _ _ [] _).mono ?_;rintro e F w'' ⟨rfl,rfl,r⟩;subst r;simp[Leaves,settle,results,results14,go_sem];exact⟨o,yx s⟩
 ·rw[o]at i;have d:=i;rw[if_pos rfl]at d;subst d;go_wp2_with fail;refine leaves_cons (f:=57) (args:=#[]) (by simp) (by simp[go_sem]) ?_;refine(Bn _).mono ?_;rintro e F w'' ⟨rfl,rfl,r⟩;subst r;simp[Leaves,settle,results,results14,go_sem];exact⟨o,yx s⟩
theorem pi(c a:Int)(b:ByteArray):mh c a 0 0 b ⟨#[]⟩=fr0 c a b:=by
 unfold mh fr0;have e:(⟨#[]⟩:ByteArray).toList=[]:=by unfold ByteArray.toList ByteArray.toList.loop;rfl
 rw[e]
theorem Aq(S:List D3):((S.length:Int)==0)=noS S:=by
 unfold noS;by_cases h:S.length=0
 ·rw[h];rfl
 ·rw[decide_eq_false h];simpa using h
theorem rN(x:Int):(x==0)=decide (x=0):=rfl
theorem KD(S:List D3)(A B C D f b h g:Int)(d:ByteArray)(a:Option η)(n c:Nat)(k:S.length=n)(w:ω):
  χ prog 15 #[κ #[J Z 1,J Z A,J Z B,J Z C,J Z D,σ a n c,J Z f,J Z b,τ d,J Z h,J Z g]] w fun e t=>e=ρ (β (bA ⟨1,A,B,C,D,S,f,b,d,h,g⟩))/\δ w.1.size w t:=by
 have o:=yz (bT w (ξ #[J Z 1,J Z A,J Z B,J Z C,J Z D,σ a n c,J Z f,J Z b,τ d,J Z h,J Z g] 29) (ξ #[J Z 0,J Z 0,J Z 0,J Z 0] 24) (ξ #[J Z 0,J Z 0,τ ⟨#[]⟩] 27));have z:=yz (((aq w [J Z 1,J Z A,J Z B,J Z C,J Z D,σ a n c,J Z f,J Z b,τ d,J Z h,J Z g] 29).alloc (ξ #[J Z 0,J Z 0,J Z 0,J Z 0] 24)).alloc (ξ #[J Z 0,J Z 0,τ ⟨#[]⟩] 27));obtain⟨l,i⟩:∃y,mh f b 0 0 d ⟨#[]⟩=y:=⟨_,rfl⟩
 obtain⟨u,q⟩:∃y,(h==0)=y:=⟨_,rfl⟩
 obtain⟨v,r⟩:∃y,(g==0)=y:=⟨_,rfl⟩
 obtain⟨m,j⟩:∃y,eqT A B C D 0 0 0 0=y:=⟨_,rfl⟩
 obtain⟨x,s⟩:∃y,((n:Int)==0)=y:=⟨_,rfl⟩
 have p:Hid (bA ⟨1,A,B,C,D,S,f,b,d,h,g⟩=(m&&x&&(l&&u&&v))):=yz (by
  rw[Bq rfl,<-i,<-q,<-r,<-j,<-s,<-k];unfold tz iF;dsimp only
  rw[pi,Aq,rN,rN])
 have E:∀W:ω,(binOp .eql 27 (κ #[J Z f,J Z b,τ d]) (κ #[J Z 0,J Z 0,τ ⟨#[]⟩])).run prog W=.ok (β l) W:=fun W=>by rw[jU,i]
 have F:∀W:ω,(binOp .eql 24 (κ #[J Z A,J Z B,J Z C,J Z D]) (κ #[J Z 0,J Z 0,J Z 0,J Z 0])).run prog W=.ok (β m) W:=fun W=>by rw[gP,j]
 clear i j k;go_enter func15,ntmps15;go_wp2
 all_goals (go_ret;exact⟨by rw[yx p];simp[*],yx o⟩)
theorem KF(S:List D3)(A B C D f b h g:Int)(d:ByteArray)(a:Option η)(n c:Nat)(p:S.length=n)(w:ω):
  χ prog 15 #[κ #[J Z 2,J Z A,J Z B,J Z C,J Z D,σ a n c,J Z f,J Z b,τ d,J Z h,J Z g]] w fun e z=>e=ρ (β (bA ⟨2,A,B,C,D,S,f,b,d,h,g⟩))/\δ w.1.size w z:=by
 have m:=yz (bT w (ξ #[J Z 2,J Z A,J Z B,J Z C,J Z D,σ a n c,J Z f,J Z b,τ d,J Z h,J Z g] 29) (ξ #[J Z 0,J Z 0,J Z 0,J Z 0] 24) (ξ #[J Z 0,J Z 0,τ ⟨#[]⟩] 27));have l:=yz (((aq w [J Z 2,J Z A,J Z B,J Z C,J Z D,σ a n c,J Z f,J Z b,τ d,J Z h,J Z g] 29).alloc (ξ #[J Z 0,J Z 0,J Z 0,J Z 0] 24)).alloc (ξ #[J Z 0,J Z 0,τ ⟨#[]⟩] 27));obtain⟨q,i⟩:∃y,mh f b 0 0 d ⟨#[]⟩=y:=⟨_,rfl⟩
 obtain⟨E,t⟩:∃y,(h==0)=y:=⟨_,rfl⟩
 obtain⟨F,u⟩:∃y,(g==0)=y:=⟨_,rfl⟩
 obtain⟨G,j⟩:∃y,eqT A B C D 0 0 0 0=y:=⟨_,rfl⟩
 obtain⟨H,v⟩:∃y,((n:Int)==0)=y:=⟨_,rfl⟩
 have o:Hid (bA ⟨2,A,B,C,D,S,f,b,d,h,g⟩=(aG A B C D&&H&&(q&&E&&F))):=yz (by
  rw[uM rfl];simp only[<-i,<-t,<-u,<-j,<-v,<-p];unfold iF;dsimp only
  rw[pi,Aq,rN,rN])
 have L:∀W:ω,(binOp .eql 27 (κ #[J Z f,J Z b,τ d]) (κ #[J Z 0,J Z 0,τ ⟨#[]⟩])).run prog W=.ok (β q) W:=fun W=>by rw[jU,i]
 have M:∀W:ω,(binOp .eql 24 (κ #[J Z A,J Z B,J Z C,J Z D]) (κ #[J Z 0,J Z 0,J Z 0,J Z 0])).run prog W=.ok (β G) W:=fun W=>by rw[gP,j]
 clear i j p;go_enter func15,ntmps15;go_wp2_with fail
 all_goals
  refine(bM A B C D _).mono ?_;rintro e K ⟨rfl,k⟩;have r:=ap l k;have s:=aB m k;clear k l m;have I:=bV (yx r);cases x:aG A B C D
  all_goals
   rw[x]at o;go_wp2
   all_goals (go_ret;exact⟨by rw[yx o];simp[*],yx s⟩)
theorem KG(S:List D3)(A B C D f b h g:Int)(d:ByteArray)(a:Option η)(n c:Nat)(m:S.length=n)(w:ω)(F:n<=1048576)(s:bu w a S n):
  χ prog 15 #[κ #[J Z 3,J Z A,J Z B,J Z C,J Z D,σ a n c,J Z f,J Z b,τ d,J Z h,J Z g]] w fun e p=>e=ρ (β (bA ⟨3,A,B,C,D,S,f,b,d,h,g⟩))/\δ w.1.size w p:=by
 have i:=yz (bT w (ξ #[J Z 3,J Z A,J Z B,J Z C,J Z D,σ a n c,J Z f,J Z b,τ d,J Z h,J Z g] 29) (ξ #[J Z 0,J Z 0,J Z 0,J Z 0] 24) (ξ #[J Z 0,J Z 0,τ ⟨#[]⟩] 27));have r:=yz (((aq w [J Z 3,J Z A,J Z B,J Z C,J Z D,σ a n c,J Z f,J Z b,τ d,J Z h,J Z g] 29).alloc (ξ #[J Z 0,J Z 0,J Z 0,J Z 0] 24)).alloc (ξ #[J Z 0,J Z 0,τ ⟨#[]⟩] 27));obtain⟨t,k⟩:∃y,mh f b 0 0 d ⟨#[]⟩=y:=⟨_,rfl⟩
 obtain⟨H,v⟩:∃y,(h==0)=y:=⟨_,rfl⟩
 obtain⟨I,x⟩:∃y,(g==0)=y:=⟨_,rfl⟩
 obtain⟨q,l⟩:∃y,eqT A B C D 0 0 0 0=y:=⟨_,rfl⟩
 obtain⟨O,z⟩:∃y,((n:Int)==0)=y:=⟨_,rfl⟩
 have j:Hid (bA ⟨3,A,B,C,D,S,f,b,d,h,g⟩=(q&&aQ S&&(t&&H&&I))):=yz (by
  rw[oR rfl];simp only[<-k,<-v,<-x,<-l,<-z,<-m];unfold tz iF;dsimp only
  rw[pi,rN,rN])
 have M:∀W:ω,(binOp .eql 27 (κ #[J Z f,J Z b,τ d]) (κ #[J Z 0,J Z 0,τ ⟨#[]⟩])).run prog W=.ok (β t) W:=fun W=>by rw[jU,k]
 have N:∀W:ω,(binOp .eql 24 (κ #[J Z A,J Z B,J Z C,J Z D]) (κ #[J Z 0,J Z 0,J Z 0,J Z 0])).run prog W=.ok (β q) W:=fun W=>by rw[gP,l]
 have cP:Hid (∀W:ω,δ w.1.size w W->χ prog 59 #[σ a n c] W fun e p=>e=ρ (β (aQ S))/\δ W.1.size W p):=yz (fun W E=>by subst m;exact ij S a c W F (s.kept E));clear k l m s;cases q
 ·skip;go_enter func15,ntmps15;go_wp2
  all_goals (go_ret;exact⟨by rw[yx j];simp[*],yx i⟩)
 go_enter func15,ntmps15;go_wp2_with fail
 all_goals
  refine(yx cP _ (yx i)).mono ?_;rintro e L ⟨rfl,o⟩;have K:=ap r o;have u:=aB i o;clear o r i;cases G:aQ S
  all_goals
   rw[G]at j;go_wp2
   all_goals (go_ret;exact⟨by rw[yx j];simp[*],yx u⟩)
theorem KH(S:List D3)(A B C D h f b d:Int)(g:ByteArray)(a:Option η)(n c:Nat)(t:S.length=n)(w:ω):
  χ prog 15 #[κ #[J Z 4,J Z A,J Z B,J Z C,J Z D,σ a n c,J Z h,J Z f,τ g,J Z b,J Z d]] w fun e K=>e=ρ (β (bA ⟨4,A,B,C,D,S,h,f,g,b,d⟩))/\δ w.1.size w K:=by
 have k:=yz (bT w (ξ #[J Z 4,J Z A,J Z B,J Z C,J Z D,σ a n c,J Z h,J Z f,τ g,J Z b,J Z d] 29) (ξ #[J Z 0,J Z 0,J Z 0,J Z 0] 24) (ξ #[J Z 0,J Z 0,τ ⟨#[]⟩] 27));have s:=yz (((aq w [J Z 4,J Z A,J Z B,J Z C,J Z D,σ a n c,J Z h,J Z f,τ g,J Z b,J Z d] 29).alloc (ξ #[J Z 0,J Z 0,J Z 0,J Z 0] 24)).alloc (ξ #[J Z 0,J Z 0,τ ⟨#[]⟩] 27));obtain⟨L,m⟩:∃y,mh h f 0 0 g ⟨#[]⟩=y:=⟨_,rfl⟩
 obtain⟨Q,E⟩:∃y,(b==0)=y:=⟨_,rfl⟩
 obtain⟨R,F⟩:∃y,(d==0)=y:=⟨_,rfl⟩
 obtain⟨r,o⟩:∃y,eqT A B C D 0 0 0 0=y:=⟨_,rfl⟩
 obtain⟨x,G⟩:∃y,((n:Int)==0)=y:=⟨_,rfl⟩
 have i:Hid (bA ⟨4,A,B,C,D,S,h,f,g,b,d⟩=(r&&x&&dP h f g&&bG 0 255 b&&bG 1 40 d)):=yz (by
  rw[oS rfl];simp only[<-m,<-E,<-F,<-o,<-G,<-t];unfold tz;dsimp only
  rw[Aq])
 have O:∀W:ω,(binOp .eql 27 (κ #[J Z h,J Z f,τ g]) (κ #[J Z 0,J Z 0,τ ⟨#[]⟩])).run prog W=.ok (β L) W:=fun W=>by rw[jU,m]
 have P:∀W:ω,(binOp .eql 24 (κ #[J Z A,J Z B,J Z C,J Z D]) (κ #[J Z 0,J Z 0,J Z 0,J Z 0])).run prog W=.ok (β r) W:=fun W=>by rw[gP,o]
 clear m o t;cases r
 ·skip;go_enter func15,ntmps15;go_wp2
  all_goals (go_ret;exact⟨by rw[yx i];simp[*],yx k⟩)
 cases x
 ·skip;go_enter func15,ntmps15;go_wp2
  all_goals (go_ret;exact⟨by rw[yx i];simp[*],yx k⟩)
 go_enter func15,ntmps15;go_wp2_with fail
 all_goals
  refine(ii h f g _).mono ?_;rintro e N ⟨rfl,p⟩;have z:=ap s p;have l:=aB k p;clear p s k;have M:=bV (yx z);cases u:dP h f g
  ·rw[u]at i;go_wp2
   all_goals (go_ret;exact⟨by rw[yx i];simp[*],yx l⟩)
  rw[u]at i;go_wp2_with fail;refine(bP b 0 255 _).mono ?_;rintro e q ⟨rfl,j⟩;rw[j];clear j q;have I:(decide (0<=b)&&decide (b<=255))=bG 0 255 b:=rfl;rw[I];cases v:bG 0 255 b
  ·rw[v]at i;go_wp2
   all_goals (go_ret;exact⟨by rw[yx i];simp[*],yx l⟩)
  rw[v]at i;go_wp2_with fail;refine(bP d 1 40 _).mono ?_;rintro e q ⟨rfl,j⟩;rw[j];clear j q;have H:(decide (1<=d)&&decide (d<=40))=bG 1 40 d:=rfl;rw[H];go_wp2;go_ret;exact⟨by rw[yx i];simp,yx l⟩
theorem KI(S:List D3)(b A B C D g d i h:Int)(f:ByteArray)(a:Option η)(n c:Nat)(s:S.length=n)(w:ω)(o:b≠1)(p:b≠2)(q:b≠3)(r:b≠4):
  χ prog 15 #[κ #[J Z b,J Z A,J Z B,J Z C,J Z D,σ a n c,J Z g,J Z d,τ f,J Z i,J Z h]] w fun e t=>e=ρ (β (bA ⟨b,A,B,C,D,S,g,d,f,i,h⟩))/\δ w.1.size w t:=by
 have l:=yz (bT w (ξ #[J Z b,J Z A,J Z B,J Z C,J Z D,σ a n c,J Z g,J Z d,τ f,J Z i,J Z h] 29) (ξ #[J Z 0,J Z 0,J Z 0,J Z 0] 24) (ξ #[J Z 0,J Z 0,τ ⟨#[]⟩] 27));have x:=yz (((aq w [J Z b,J Z A,J Z B,J Z C,J Z D,σ a n c,J Z g,J Z d,τ f,J Z i,J Z h] 29).alloc (ξ #[J Z 0,J Z 0,J Z 0,J Z 0] 24)).alloc (ξ #[J Z 0,J Z 0,τ ⟨#[]⟩] 27));obtain⟨u,j⟩:∃y,mh g d 0 0 f ⟨#[]⟩=y:=⟨_,rfl⟩
 obtain⟨I,z⟩:∃y,(i==0)=y:=⟨_,rfl⟩
 obtain⟨K,E⟩:∃y,(h==0)=y:=⟨_,rfl⟩
 obtain⟨v,k⟩:∃y,eqT A B C D 0 0 0 0=y:=⟨_,rfl⟩
 obtain⟨L,F⟩:∃y,((n:Int)==0)=y:=⟨_,rfl⟩
 have m:Hid (bA ⟨b,A,B,C,D,S,g,d,f,i,h⟩=φ):=yz (Fw o p q r);have G:∀W:ω,(binOp .eql 27 (κ #[J Z g,J Z d,τ f]) (κ #[J Z 0,J Z 0,τ ⟨#[]⟩])).run prog W=.ok (β u) W:=fun W=>by rw[jU,j]
 have H:∀W:ω,(binOp .eql 24 (κ #[J Z A,J Z B,J Z C,J Z D]) (κ #[J Z 0,J Z 0,J Z 0,J Z 0])).run prog W=.ok (β v) W:=fun W=>by rw[gP,k]
 clear j k s;go_enter func15,ntmps15;go_wp2
 all_goals (go_ret;exact⟨by rw[yx m];simp[*],yx l⟩)
theorem cd(S:List D3)(b A B C D i f g d:Int)(h:ByteArray)(a:Option η)(c:Nat)(w:ω)(o:S.length<=1048576)(n:bu w a S S.length):
  χ prog 15 #[κ #[J Z b,J Z A,J Z B,J Z C,J Z D,σ a S.length c,J Z i,J Z f,τ h,J Z g,J Z d]] w fun e p=>e=ρ (β (bA ⟨b,A,B,C,D,S,i,f,h,g,d⟩))/\δ w.1.size w p:=by
 by_cases j:b=1
 ·subst j;exact KD S A B C D i f g d h a _ c rfl w
 by_cases k:b=2
 ·subst k;exact KF S A B C D i f g d h a _ c rfl w
 by_cases l:b=3
 ·subst l;exact KG S A B C D i f g d h a _ c rfl w o n
 by_cases m:b=4
 ·subst m;exact KH S A B C D i f g d h a _ c rfl w
 exact KI S b A B C D i f g d h a _ c rfl w j k l m
section
def bp(L:List D3):Nat->List D3
 | 0=>[]
 | i+1=>if (bp L i).length<6/\fp (bp L i) (vA L i) (bp L i).length=φ then bp L i ++ [vA L i] else bp L i
def iK(L:List D3):List D3:=bp L L.length
variable {i:Nat}
theorem zO{L:List D3}(h:(bp L i).length<6)(a:fp (bp L i) (vA L i) (bp L i).length=φ):bp L (i+1)=bp L i ++ [vA L i]:=by
 show (if _ then _ else _)=_;rw[if_pos ⟨h,a⟩]
theorem BE{L:List D3}(a:fp (bp L i) (vA L i) (bp L i).length=θ):bp L (i+1)=bp L i:=by
 show (if _ then _ else _)=_;rw[if_neg (fun h=>by rw[h.2]at a;cases a)]
theorem BD{L:List D3}(h:¬(bp L i).length<6):bp L (i+1)=bp L i:=by
 show (if _ then _ else _)=_;rw[if_neg (fun a=>h a.1)]
theorem tY(L:List D3):∀i,(bp L i).length<=6/\(bp L i).length<=i
 | 0=>by simp[bp]
 | i+1=>by
  have a:=tY L i;unfold bp;split
  ·rename_i h
   have:=h.1;simp;omega
  ·omega
theorem BF{L:List D3}(h:¬(bp L i).length<6):∀j,i<=j->bp L j=bp L i
 | 0,hj=>by
  have:i=0:=by omega
  rw[this]
 | j+1,hj=>by
  by_cases e:i=j+1
  ·rw[e]
  ·have a:=BF h j (by omega);rw[BD (by rw[a];exact h),a]
theorem Fh{K:List D3}{x:D3}{k:Nat}(a:k<K.length):vA (K ++ [x]) k=vA K k:=by
 unfold vA;rw[ϐ,ϐ,List.getElem?_append_left a]
theorem DC{K:List D3}{x:D3}:vA (K ++ [x]) K.length=x:=by
 unfold vA;rw[ϐ,List.getElem?_append_right (ώ _)];simp
theorem DX(L:List D3):∀i k,k<(bp L i).length->∃j,j<i/\vA (bp L i) k=vA L j
 | 0,k,h=>by simp[bp]at h
 | i+1,k,h=>by
  by_cases a:(bp L i).length<6/\fp (bp L i) (vA L i) (bp L i).length=φ
  ·rw[zO a.1 a.2]at h ⊢;by_cases b:k<(bp L i).length
   ·obtain⟨j,d,e⟩:=DX L i k b;exact⟨j,by omega,by rw[Fh b];exact e⟩
   ·have:k=(bp L i).length:=by simp at h;omega
    subst this;exact⟨i,by omega,DC⟩
  ·have e:bp L (i+1)=bp L i:=by
    show (if _ then _ else _)=_;rw[if_neg a]
   rw[e]at h ⊢;obtain⟨j,d,c⟩:=DX L i k h;exact⟨j,by omega,c⟩
end
section
structure Fr where
 wd:Nat
 ht:Nat
 px:Nat->Nat
 lv:Int
def Fr.n(f:Fr):Nat:=f.wd*f.ht
def mW(f:Fr)(T:Nat->Bool)(i:Nat):Bool:=decide (f.lv<(f.px i:Int)) && !T i
def mark(T:Nat->Bool)(i:Nat):Nat->Bool:=fun j=>if j=i then θ else T j
def lh(f:Fr)(i:Nat):List Nat:=
 (if 0<i % f.wd then [i-1] else []) ++ (if i % f.wd<f.wd-1 then [i+1] else []) ++ (if 0<i / f.wd then [i-f.wd] else []) ++ (if i / f.wd<f.ht-1 then [i+f.wd] else [])
def ld(f:Fr)(s:(Nat->Bool)×List Nat)(j:Nat):(Nat->Bool)×List Nat:=if mW f s.1 j=θ then (mark s.1 j,s.2 ++ [j]) else s
def gu(f:Fr)(s:(Nat->Bool)×List Nat)(l:List Nat):(Nat->Bool)×List Nat:=l.foldl (ld f) s
def bi(f:Fr)(T:Nat->Bool)(i:Nat):Nat->(Nat->Bool)×List Nat
 | 0=>(mark T i,[i])
 | k+1=>if k<(bi f T i k).2.length then gu f (bi f T i k) (lh f ((bi f T i k).2.getD k 0)) else bi f T i k
def cnt(T:Nat->Bool):Nat->Nat
 | 0=>0
 | n+1=>cnt T n+if T n=θ then 1 else 0
theorem IM(T:Nat->Bool):∀n,cnt T n<=n
 | 0=>ώ _
 | n+1=>by unfold cnt;have:=IM T n;split<;>omega
theorem sD(T:Nat->Bool)(i:Nat):∀n,n<=i->cnt (mark T i) n=cnt T n
 | 0,_=>rfl
 | n+1,h=>by
  have e:mark T i n=T n:=by unfold mark;rw[if_neg (by omega)]
  unfold cnt;rw[sD T i n (by omega),e]
theorem uN(T:Nat->Bool)(i:Nat)(a:T i=φ):∀n,i<n->cnt (mark T i) n=cnt T n+1
 | 0,h=>absurd h (Nat.not_lt_zero _)
 | n+1,h=>by
  unfold cnt;by_cases e:i=n
  ·subst e;rw[sD T i i (ώ _),a];simp[mark]
  ·have b:mark T i n=T n:=by unfold mark;rw[if_neg (by omega)]
   rw[uN T i a n (by omega),b];omega
structure xh (f:Fr) (c:Nat) (s:(Nat->Bool)×List Nat):Prop where
 num:cnt s.1 f.n=c+s.2.length
 lies:∀j∈s.2,j<f.n
variable {c i k:Nat} {T:Nat->Bool}
theorem xh.len{f:Fr}{s:(Nat->Bool)×List Nat}(h:xh f c s):c+s.2.length<=f.n:=by rw[<-h.num];exact IM _ _
theorem vL{f:Fr}{j:Nat}(h:mW f T j=θ):f.lv<(f.px j:Int)/\T j=φ:=by
 unfold mW at h;rw[Ϗ]at h;exact⟨of_decide_eq_true h.1,by simpa using h.2⟩
theorem EW{f:Fr}{s:(Nat->Bool)×List Nat}(h:xh f c s){j:Nat}(b:j<f.n):xh f c (ld f s j):=by
 unfold ld;split
 ·rename_i d
  refine⟨?_,?_⟩
  ·show cnt (mark s.1 j) f.n=_;rw[uN _ _ (vL d).2 _ b,h.num];simp;omega
  ·intro q a;rw[List.mem_append]at a;rcases a with a | a
   ·exact h.lies q a
   ·rw[List.mem_singleton.1 a];exact b
 ·exact h
theorem wk{f:Fr}(l:List Nat):∀ {s:(Nat->Bool)×List Nat},xh f c s->(∀j∈l,j<f.n)->xh f c (gu f s l):=by
 induction l with
 | nil=>intro s h _;exact h
 | cons x l ih=>intro s h a;exact ih (EW h (a x (by simp))) (fun j b=>a j (by simp[b]))
theorem vV{f:Fr}(d:i<f.n):∀j∈lh f i,j<f.n:=by
 intro j a
 have l:0<f.wd:=by
  rcases Nat.eq_zero_or_pos f.wd with h | h
  ·rw[Fr.n,h,Nat.zero_mul]at d;omega
  ·exact h
 have k:=Nat.div_add_mod i f.wd;have e:=Nat.mod_lt i l;have b:i / f.wd<f.ht:=Nat.div_lt_of_lt_mul d;unfold lh at a;simp only[List.mem_append]at a;rcases a with ((a | a) | a) | a
 ·by_cases h:0<i % f.wd
  ·rw[if_pos h]at a;rw[List.mem_singleton.1 a];omega
  ·rw[if_neg h]at a;cases a
 ·by_cases h:i % f.wd<f.wd-1
  ·rw[if_pos h]at a;rw[List.mem_singleton.1 a];have c:f.wd*(i / f.wd+1)<=f.wd*f.ht:=Nat.mul_le_mul_left _ b;rw[Nat.mul_add,Nat.mul_one]at c;show i+1<f.wd*f.ht;omega
  ·rw[if_neg h]at a;cases a
 ·by_cases h:0<i / f.wd
  ·rw[if_pos h]at a;rw[List.mem_singleton.1 a];omega
  ·rw[if_neg h]at a;cases a
 ·by_cases h:i / f.wd<f.ht-1
  ·rw[if_pos h]at a;rw[List.mem_singleton.1 a]
   have g:i / f.wd+1+1<=f.ht:=by
    generalize i / f.wd=q at *;omega
   have c:f.wd*(i / f.wd+1+1)<=f.wd*f.ht:=Nat.mul_le_mul_left _ g;rw[Nat.mul_add,Nat.mul_add,Nat.mul_one]at c;show i+f.wd<f.wd*f.ht;omega
  ·rw[if_neg h]at a;cases a
theorem ms{f:Fr}(a:i<f.n)(c:T i=φ):∀k,xh f (cnt T f.n) (bi f T i k)
 | 0=>⟨by show cnt (mark T i) f.n=_;rw[uN _ _ c _ a];rfl,fun j d=>by rw[List.mem_singleton.1 d];exact a⟩
 | k+1=>by
  have b:=ms a c k;unfold bi;split
  ·rename_i h
   refine wk _ b (vV (b.lies _ ?_));rw[List.getD,ϑ h];exact List.getElem_mem h
  ·exact b
theorem Im(f:Fr)(s:(Nat->Bool)×List Nat)(j:Nat):s.2 <+: (ld f s j).2:=by
 unfold ld;split
 ·exact⟨[j],rfl⟩
 ·exact List.prefix_refl _
theorem Hy(f:Fr)(l:List Nat):∀s:(Nat->Bool)×List Nat,s.2 <+: (gu f s l).2:=by
 induction l with
 | nil=>intro s;exact List.prefix_refl _
 | cons x l ih=>intro s;exact(Im f s x).trans (ih _)
theorem yq(f:Fr)(T:Nat->Bool)(i k:Nat):(bi f T i k).2 <+: (bi f T i (k+1)).2:=by
 rw[bi];split
 ·exact Hy _ _ _
 ·exact List.prefix_refl _
theorem vq{f:Fr}(h:(bi f T i k).2.length<=k):∀m,bi f T i (k+m)=bi f T i k
 | 0=>rfl
 | m+1=>by
  have a:=vq h m;rw[<-Nat.add_assoc,bi,a,if_neg (by omega)]
def gO(f:Fr)(T:Nat->Bool)(i:Nat):(Nat->Bool)×List Nat:=bi f T i f.n
theorem yc{f:Fr}(d:i<f.n)(c:T i=φ)(a:(bi f T i k).2.length<=k)(b:k<=f.n):bi f T i k=gO f T i:=by
 unfold gO;rw[<-vq a (f.n-k),show k+(f.n-k)=f.n by omega]
structure Bl where
 ar:Nat
 su:Nat
 sx:Nat
 sy:Nat
 ed:Bool
def fw(f:Fr)(i:Nat):Bool:=decide (i % f.wd=0) || decide (i / f.wd=0) || decide (i % f.wd=f.wd-1) || decide (i / f.wd=f.ht-1)
def xj(f:Fr)(b:Bl)(i:Nat):Bl:=⟨b.ar+1,b.su+f.px i,b.sx+f.px i*(i % f.wd),b.sy+f.px i*(i / f.wd),b.ed || fw f i⟩
def iA(f:Fr)(l:List Nat):Bl:=l.foldl (xj f) ⟨0,0,0,0,φ⟩
theorem zf(f:Fr)(l:List Nat)(i:Nat):iA f (l ++ [i])=xj f (iA f l) i:=by unfold iA;rw[List.foldl_append];rfl
def bc(f:Fr):Nat->(Nat->Bool)×List Bl
 | 0=>(fun _=>φ,[])
 | i+1=>if mW f (bc f i).1 i=θ then ((gO f (bc f i).1 i).1,(bc f i).2 ++ [iA f (gO f (bc f i).1 i).2]) else bc f i
theorem yW(f:Fr)(i:Nat):∀m,(bc f i).2.length<=(bc f (i+m)).2.length
 | 0=>ώ _
 | m+1=>by
  refine Nat.le_trans (yW f i m) ?_;rw[<-Nat.add_assoc,bc];split
  ·simp
  ·exact ώ _
theorem pA(f:Fr):∀i,(bc f i).2.length<=i
 | 0=>ώ _
 | i+1=>by
  have:=pA f i;rw[bc];split
  ·simp;omega
  ·omega
theorem vj{f:Fr}(q:f.wd<=16)(n:f.ht<=12)(m:∀i,f.px i<256):∀(l:List Nat) (b:Bl),(∀j∈l,j<f.n)->(l.foldl (xj f) b).ar=b.ar+l.length/\(l.foldl (xj f) b).su<=b.su+255*l.length/\(l.foldl (xj f) b).sx<=b.sx+3825*l.length/\(l.foldl (xj f) b).sy<=b.sy+2805*l.length
 | [],b,_=>⟨rfl,ώ _,ώ _,ώ _⟩
 | i :: l,b,hl=>by
  obtain⟨c,d,e,g⟩:=vj q n m l (xj f b i) (fun j o=>hl j (by simp[o]));have k:=hl i (by simp);have p:=m i
  have a:0<f.wd:=by
   rcases Nat.eq_zero_or_pos f.wd with h | h
   ·rw[Fr.n,h,Nat.zero_mul]at k;omega
   ·exact h
  have s:=Nat.mod_lt i a;have r:i / f.wd<f.ht:=Nat.div_lt_of_lt_mul k;have t:f.px i*(i % f.wd)<=255*15:=Nat.mul_le_mul (by omega) (by omega);have u:f.px i*(i / f.wd)<=255*11:=Nat.mul_le_mul (by omega) (by omega);rw[List.foldl_cons,List.length_cons];unfold xj at c d e g ⊢;simp only at c d e g ⊢;refine⟨by omega,by omega,by omega,by omega⟩
theorem sr{f:Fr}(d:f.wd<=16)(a:f.ht<=12)(c:∀i,f.px i<256)(l:List Nat)(b:∀j∈l,j<f.n):(iA f l).ar=l.length/\(iA f l).su<=255*l.length/\(iA f l).sx<=3825*l.length/\(iA f l).sy<=2805*l.length:=by
 have:=vj d a c l ⟨0,0,0,0,φ⟩ b;simpa[iA] using this
end
theorem JA(a:Option η)(c f:Nat)(i:Nat)(b:Int)(w:ω)(C:c<=1048576)(A:i<=1000)(D:b<=9223372036854775807)(n:Row w a c w.1.size):
  χ prog 25 #[σ a c f,J Z (i:Int),J Z b] w fun e u=>∃k:Int,e=ρ (J Z k)/\0<=k/\(1<b->k<b)/\(b<=1->k=0)/\u=w:=by
 by_cases x:b<=1
 ·clear n;go_enter func25,ntmps25;go_wp2;go_ret;exact⟨0,rfl,Int.le_refl _,by omega,fun _=>rfl,rfl⟩
 ·have t:1<b:=by omega
  rcases n with rfl | ⟨v,E,rfl,y,g⟩
  ·go_enter func25,ntmps25;go_wp2;go_ret;exact⟨0,rfl,Int.le_refl _,by omega,fun _=>rfl,rfl⟩
  ·by_cases m:c=0
   ·subst m;clear g;go_enter func25,ntmps25;go_wp2;go_ret;exact⟨0,rfl,Int.le_refl _,by omega,fun _=>rfl,rfl⟩
   ·obtain⟨z,o,F,G⟩:=g (i % c) (Nat.mod_lt _ (by omega));have s:((c:Int)==0)=φ:=by simp;omega
    have r:(0:Int)<(c:Int):=by omega
    obtain⟨j,B⟩:∃j:Nat,(i:Int) % (c:Int)=(j:Int):=⟨i % c,by simp⟩
    have d:i % c=j:=by omega
    rw[d]at o;have q:(j:Int)<(c:Int):=by have:=Nat.mod_lt i (show 0<c by omega);omega
    clear g m d;go_enter func25,ntmps25;go_wp2;go_ret;have p:0<=z % b:=Int.emod_nonneg _ (by omega);have l:z % b<b:=Int.emod_lt_of_pos _ (by omega);exact⟨z % b,rfl,p,by first | exact l | exact fun _=>l,by intro h;omega,rfl⟩
end Go.Proofs.YtnnhjegapofopaaGreatDoor
