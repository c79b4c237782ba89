import Derived.Deep.DeepCutAuto
import Derived.RegionTactic
import Derived.OpenShut
import Derived.Test.YtnnhjegapofopaaGreatDoorM1
namespace Go.Proofs.YtnnhjegapofopaaGreatDoor
set_option linter.all false
set_option maxRecDepth 100000
set_option maxHeartbeats 8000000
open Go.RowKit Go.Sort Go.Proofs.Tryz
open Go.Value renaming int -> J,slice -> σ,agg -> κ,pointer -> π,bool -> β
open Go.Obj renaming cells -> ξ
open Go.Ending renaming returned -> ρ
open Go renaming World -> ω,Value -> μ,Calls -> χ,Addr -> η,cell_regrown -> ϊ,bodyPost_ret -> ϋ,below_regrown -> ό
open Go.RowKit renaming Below -> δ,wrap64 -> ύ,intOf -> ώ
open Option renaming none -> ν,some -> ς
open Bool renaming true -> θ,false -> φ
open Nat renaming le_refl -> Ϗ,lt_of_lt_of_le -> ϐ,zero_le -> ϑ,le_of_lt -> ϒ
open Go.RowKit.Below renaming refl -> ϓ
open Go.IntKind renaming i64 -> Z
def kE(L:List St):μ:=if 12<L.length then fS Gr else match (List.range L.length).find? (fun i=>!gB L i) with | none=>.nilIface | some i=>iX L i
theorem sA{L:List St}(b:L.length<=12)(h:CD L L.length):kE L=.nilIface:=by
 unfold kE;rw[if_neg (by omega)]
 have:(List.range L.length).find? (fun i=>!gB L i)=ν:=by
  rw[List.find?_eq_none];intro j a;rw[h j (List.mem_range.1 a)];simp
 rw[this]
theorem Iv{L:List St}{k:Nat}(d:L.length<=12)(c:k<L.length)(h:CD L k)(a:gB L k=φ):kE L=iX L k:=by
 unfold kE;rw[if_neg (by omega)]
 have:(List.range L.length).find? (fun i=>!gB L i)=ς k:=by
  rw[List.find?_range_eq_some];refine⟨by rw[a];rfl,List.mem_range.2 c,fun j b=>?_⟩;rw[h j b];rfl
 rw[this]
theorem Iw{L:List St}(h:bE L=φ):∃b,kE L=fS b:=by
 unfold kE;split
 ·exact⟨_,rfl⟩
 ·rename_i d
  cases a:(List.range L.length).find? (fun i=>!gB L i) with
  | none=>
   exfalso;rw[List.find?_eq_none]at a;have:bE L=θ:=AH (by omega) (fun j c=>by have:=a j (List.mem_range.2 c);simpa using this);rw[h]at this;cases this
  | some i=>
   rw[List.find?_range_eq_some]at a;exact Gs (by simpa using a.1)
theorem Fk{L:List St}(h:bE L=θ):kE L=.nilIface:=sA (ff h).1 (ff h).2
theorem ro(L:List St)(a:Option η)(c:Nat)(w:ω)(hn:L.length<=1048576)(B:L.length<=c)(aa:c<=9223372036854775807)(P:aO w a L L.length):
  χ prog 132 #[σ a L.length c] w fun e w'=>e=ρ (kE L)/\δ w.1.size w w':=by
 obtain⟨n,q⟩:∃n,L.length=n:=⟨_,rfl⟩
 rw[q]at hn B P ⊢;have l:=yz q;clear q;by_cases O:12<n
 ·have A:(12:Int)<(n:Int):=by omega
  have f:Hid (kE L=fS Gr):=yz (by unfold kE;rw[if_pos (by rw[yx l];exact O)]);clear P;go_enter func132,ntmps132;go_wp2;go_ret;exact⟨by rw[yx f];rfl,ϓ _ _⟩
 have A:¬(12:Int)<(n:Int):=by omega
 rcases P with rfl | ⟨b,o,rfl,hb,Q⟩
 ·have f:Hid (kE L=.nilIface):=yz (sA (by rw[yx l];omega) (by rw[yx l];intro j hj;omega));go_enter func132,ntmps132;go_wp2;refine wp_loop_rounds 1 ?_;rw[rounds_succ];go_wp2;go_ret;exact⟨by rw[yx f];rfl,ϓ _ _⟩
 have HC:=yz Q;have HS:Hid (aO w (ς ⟨b,o,ν⟩) L n):=yz (.inr ⟨b,o,rfl,hb,Q⟩);clear Q;go_enter func132,ntmps132;go_wp2;go_loopw [13] (fun i wr=>∃k:Nat,k<=n/\i=J Z k/\Hid (CD L k)/\Hid (δ w.1.size w wr)) (fun i _=>n-(ώ i).toNat)
 case atStart=>exact⟨0,by omega,rfl,yz (fun j hj=>absurd hj (Nat.not_lt_zero _)),yz (ϓ _ _)⟩
 case round=>
  obtain⟨k,hk,rfl,M,r⟩:=hrel;by_cases p:k<n
  ·obtain⟨⟨G,H,I,K⟩,R⟩:∃s,stA L k=s:=⟨_,rfl⟩
   have E:=((yx HC) k p).kept hb (yx r);rw[R]at E;obtain⟨v,x,y,z⟩:=E;have HT:=yz R;clear R;have U:=yz ((yx r).alloc (yx r).size (ξ #[J Z G,J Z H,J Z I,J Z K] 130));have V:=yz (ji wr (G,H,I,K) 130);go_wp2_with fail;clear v x y z;have m:=yx U;have D:=yx V;generalize S:wr.alloc (ξ #[J Z G,J Z H,J Z I,J Z K] 130)=X at m D ⊢;have h:=yz m;clear S m U V;obtain⟨v,x,y,z⟩:=D;simp only[Nat.zero_add]at v x y z;have r0:=ϊ v;have r1:=ϊ x;have r2:=ϊ y;have r3:=ϊ z;clear v x y z;have cW:=yz (fun (W:ω) (hW:aO W (ς ⟨b,o,ν⟩) L k)=>xQ L k G H I K (ς ⟨b,o,ν⟩) k W (by omega) (yx HT) hW);have u:=yz (((yx HS).less (ϒ p)).kept (yx h));have ab:(k:Int)<=(c:Int):=by omega
   refine de ?_;repeat (quiet_step (first | (with_reducible exact Calls.regrown_of (yx cW _ ((yx u).kept (ό _ _ _))))))
   refine di fun Y F=>?_;have T:=ak (yx h) (ό X Y F);generalize grow (redrawn X Y) F=W2 at T ⊢;have t:=yz T;clear T h r cW u r0 r1 r2 r3;cases d:gB L k
   ·obtain⟨ac,g⟩:=Gs d;have f:=yz (Iv (by rw[yx l];omega) (by rw[yx l];exact p) (yx M) d);rw[g]at f ⊢;unfold fS at f ⊢;clear d g;go_wp2;go_ret;exact⟨by rw[yx f];rfl,yx t⟩
   ·rw[Mf d];have N:=yz (Av (yx M) d);clear d;go_wp2;go_roundw
    case rel=>exact⟨k+1,by omega,by go_num,N,t⟩
    case measure=>simp[ώ];omega
  ·have C:k=n:=by omega
   subst C;have f:=yz (sA (L:=L) (by rw[yx l];omega) (by rw[yx l];exact yx M));go_wp2;go_ret;exact⟨by rw[yx f];rfl,yx r⟩
theorem iT(L:List St)(a:Option η)(c:Nat)(p:η)(w:ω)(t:L.length<=1048576)(d:L.length<=c)(j:c<=9223372036854775807)(s:aO w a L L.length)(o:bQ p w):
  χ prog 96 #[σ a L.length c] w fun e b=>e=ρ (β (bE L))/\δ w.1.size w b:=by
 have v:=ϊ (show w.cell? ⟨1,0,ν⟩=ς (.iface 291 (π (ς p))) from o);have r:=yz s;have u:=yz o;clear s o;cases l:bE L
 ·obtain⟨k,f⟩:=Iw l;have cW:Hid (∀W:ω,aO W a L L.length->χ prog 132 #[σ a L.length c] W fun e b=>e=ρ (.iface 201 (κ #[.string k]))/\δ W.1.size W b):=yz (fun W i=>(ro L a c W t d j i).mono fun e b h=>⟨by rw[h.1,f];rfl,h.2⟩);have m:=yz (fun (W:ω) (i:bQ p W)=>Jt k p W i);clear f l;go_enter func96,ntmps96;go_wp2_with fail;refine de ?_;repeat (quiet_step (first | (with_reducible exact Calls.regrown_of (yx cW _ ((yx r).kept (ό _ _ _)))) | (with_reducible exact Calls.regrown_of (yx m _ ((yx u).kept (ό _ _ _))))))
  refine di fun n g=>?_;have q:=ό w n g;go_wp2;go_ret;exact⟨rfl,q⟩
 ·have cW:Hid (∀W:ω,aO W a L L.length->χ prog 132 #[σ a L.length c] W fun e b=>e=ρ .nilIface/\δ W.1.size W b):=yz (fun W i=>(ro L a c W t d j i).mono fun e b h=>⟨by rw[h.1,Fk l],h.2⟩);have m:Hid (∀W:ω,χ prog 131 #[.nilIface,.iface 291 (π (ς p))] W fun e b=>e=ρ (β φ)/\δ W.1.size W b):=yz (fun W=>(MQ p W).mono fun e b h=>⟨h.1,by rw[h.2];exact ϓ _ _⟩);clear l;go_enter func96,ntmps96;go_wp2_with fail;refine de ?_;repeat (quiet_step (first | (with_reducible exact Calls.regrown_of (yx cW _ ((yx r).kept (ό _ _ _)))) | (with_reducible exact aH m)))
  refine di fun n g=>?_;have q:=ό w n g;go_wp2;go_ret;exact⟨rfl,q⟩
section
theorem BB(a b c d e f:Int):eqB a b c d e f=eqI d e f a b c:=by
 unfold eqB eqI;congr 1
 apply propext;constructor<;>rintro ⟨g,h,i⟩<;>exact⟨g.symm,h.symm,i.symm⟩
variable {s1 s2 s3 s4:Int} {i:Nat}
theorem CA{L:List St}(a:stA L i=(s1,s2,s3,s4))(h:idB s1=φ):gB L i=φ:=by unfold gB;rw[a];simp[h]
theorem JU{L:List St}(h:upB L i=φ):gB L i=φ:=by unfold gB;simp[h]
theorem qH{L:List St}(a:stA L i=(s1,s2,s3,s4))(h:aX s2 s3 s4=φ):gB L i=φ:=by unfold gB;rw[a];simp[h]
theorem CB{L:List St}(a:stA L i=(s1,s2,s3,s4))(h:gN s2 s3 s4=φ):gB L i=φ:=by unfold gB;rw[a];simp[h]
theorem JV{L:List St}(h:gy L (stA L i) i=θ):gB L i=φ:=by unfold gB;simp[h]
theorem CC{L:List St}(f:stA L i=(s1,s2,s3,s4))(a:idB s1=θ)(b:upB L i=θ)(c:aX s2 s3 s4=θ)(d:gN s2 s3 s4=θ)(e:gy L (stA L i) i=φ):gB L i=θ:=by
 unfold gB;rw[e,b,f];simp[a,c,d]
theorem nO(L:List St)(a:Option η)(c:Nat)(w:ω)(hn:L.length<=1048576)(hS:aO w a L L.length):
  χ prog 98 #[σ a L.length c] w fun e w'=>e=ρ (β (bE L))/\δ w.1.size w w':=by
 obtain⟨n,ag⟩:∃n,L.length=n:=⟨_,rfl⟩
 rw[ag]at hn hS ⊢;have E:=yz ag;clear ag;by_cases aw:12<n
 ·have am:(12:Int)<(n:Int):=by omega
  have v:Hid (bE L=φ):=yz (Kw (by rw[yx E];exact aw));clear hS;go_enter func98,ntmps98;go_wp2;go_ret;exact⟨by rw[yx v];rfl,ϓ _ _⟩
 have am:¬(12:Int)<(n:Int):=by omega
 rcases hS with rfl | ⟨b,o,rfl,hb,hc⟩
 ·have v:Hid (bE L=θ):=yz (AH (by rw[yx E];omega) (by rw[yx E];intro j hj;omega));go_enter func98,ntmps98;go_wp2;refine wp_loop_rounds 1 ?_;rw[rounds_succ];go_wp2;go_ret;exact⟨by rw[yx v];rfl,ϓ _ _⟩
 have HC:=yz hc;clear hc;go_enter func98,ntmps98;go_wp2;go_loopw [3] (fun i wr=>∃k:Nat,k<=n/\i=J Z k/\Hid (CD L k)/\Hid (δ w.1.size w wr)) (fun i _=>n-(ώ i).toNat)
 case atStart=>exact⟨0,by omega,rfl,yz (fun j hj=>absurd hj (Nat.not_lt_zero _)),yz (ϓ _ _)⟩
 case round=>
  obtain⟨k,hk,rfl,HF,HB⟩:=hrel;by_cases t:k<n
  ·obtain⟨⟨U,d,f,g⟩,hs⟩:∃s,stA L k=s:=⟨_,rfl⟩
   have q:=((yx HC) k t).kept hb (yx HB);rw[hs]at q;obtain⟨c0,c1,c2,c3⟩:=q;have F:=yz hs;clear hs;have ay:(k:Int)<(n:Int):=by omega
   have B1:=yz ((yx HB).alloc (yx HB).size (ξ #[J Z d,J Z f,J Z g] 93));have N1:=yz (aK wr d f g 93);rcases Nat.eq_zero_or_pos k with an | an
   ·subst an;go_wp2_with fail;clear c0 c1 c2 c3;have H:=yx B1;have C:=yx N1;generalize aj:wr.alloc (ξ #[J Z d,J Z f,J Z g] 93)=O at H C ⊢;generalize ai:wr.1.size=vb at C ⊢;have p:=yz H;have B:=yz C;clear aj ai H C B1 N1 HB;obtain⟨v0,v1,v2⟩:=yx B;have r0:=ϊ v0;have r1:=ϊ v1;have r2:=ϊ v2;clear v0 v1 v2;have q:=((yx HC) (0) t).kept hb (yx p);rw[yx F]at q;have T:=q.1;simp only[Nat.zero_mul,Nat.add_zero]at T;have q0:=ϊ T;clear q T;have D:Hid (∀W:ω,χ prog 61 #[J Z U,J Z 1,J Z 9999] W fun e w'=>e=ρ (β (idB U))/\δ W.1.size W w'):=yz (fun W=>(bP U 1 9999 W).mono fun e w' h=>⟨h.1,by rw[h.2];exact ϓ _ _⟩);have G:=yz (fun W=>fg d f g W);have cW:=yz (fun W=>gR 10 d f g W (by omega) (by omega));cases x:idB U
    ·have v:Hid (bE L=φ):=yz (lp (k:=0) (by rw[yx E];exact t) (CA (yx F) x));rw[x]at D;refine de ?_;repeat (go_big_quiet_step (with_reducible first | exact aH D))
     refine di fun u l=>?_;have r:=ak (yx p) (ό O u l);go_wp2;go_ret;exact⟨by rw[yx v];rfl,r⟩
    ·rw[x]at D;have HU:Hid (upB L 0=θ):=yz rfl;cases N:aD d f g
     ·have v:Hid (bE L=φ):=yz (lp (k:=0) (by rw[yx E];exact t) (qH (yx F) (by unfold aX;rw[N];rfl)));rw[N]at G;refine de ?_;repeat (go_big_quiet_step (with_reducible first | exact aH D | exact aH G))
      refine di fun u l=>?_;have r:=ak (yx p) (ό O u l);go_wp2;go_ret;exact⟨by rw[yx v];rfl,r⟩
     ·rw[N]at G;have cP:=yz (fun W=>iO d f g W N);cases A:aS 10 d f g
      ·have v:Hid (bE L=φ):=yz (lp (k:=0) (by rw[yx E];exact t) (qH (yx F) (by unfold aX;rw[A];simp)));rw[A]at cW;refine de ?_;repeat (go_big_quiet_step (with_reducible first | exact aH D | exact aH G | exact aH cW))
       refine di fun u l=>?_;have r:=ak (yx p) (ό O u l);go_wp2;go_ret;exact⟨by rw[yx v];rfl,r⟩
      ·rw[A]at cW;have M:=fun W=>mB (ύ (d.tdiv (gI d f g))) (ύ (f.tdiv (gI d f g))) (ύ (g.tdiv (gI d f g))) d f g W;have S:eqB (ύ (d.tdiv (gI d f g))) (ύ (f.tdiv (gI d f g))) (ύ (g.tdiv (gI d f g))) d f g=gN d f g:=by rw[BB];unfold gN prI;rw[N];rfl
       rw[S]at M;clear S;generalize ύ (d.tdiv (gI d f g))=V at cP M;generalize ύ (f.tdiv (gI d f g))=X at cP M;generalize ύ (g.tdiv (gI d f g))=Y at cP M;cases z:gN d f g
       ·have v:Hid (bE L=φ):=yz (lp (k:=0) (by rw[yx E];exact t) (CB (yx F) z));rw[z]at M;refine de ?_;repeat (go_big_quiet_step (with_reducible first | exact aH D | exact aH G | exact aH cW | exact aH cP))
        refine di fun u l=>?_;have r:=ak (yx p) (ό O u l);go_wp2;go_ret;exact⟨by rw[yx v];rfl,r⟩
       ·rw[z]at M;have HM:Hid (aX d f g=θ):=yz (by unfold aX;rw[N,A];rfl);have HI:=yz x;have ad:=yz z;refine de ?_;repeat (go_big_quiet_step (with_reducible first | exact aH D | exact aH G | exact aH cW | exact aH cP))
        refine di fun u l=>?_;have r:=ό O u l;have I:=ak (yx p) r;have K:=(yx B).kept (vlt (yx B)) r;generalize grow (redrawn O u) l=W2 at I K r ⊢;have aa:=yz I;have ac:=yz K;clear r I K r0 r1 r2 q0 M D G cW cP x z A N p B;go_wp2;go_loopw [5] (fun i wr=>∃m:Nat,m<=0/\i=J Z m/\Hid (rH L (stA L (0)) m)/\Hid (δ w.1.size w wr)/\Hid (aI wr vb d f g)) (fun i _=>(0)-(ώ i).toNat)
        case atStart=>exact⟨0,by omega,rfl,yz (fun j hj=>absurd hj (Nat.not_lt_zero _)),aa,ac⟩
        case round=>
         obtain⟨m,hm,rfl,HE,P,Q⟩:=hrel;by_cases aq:m<0
         ·omega
         ·have R:m=0:=by omega
          subst R;have ab:=yz (Av (yx HF) (CC (yx F) (yx HI) (yx HU) (yx HM) (yx ad) (wR (yx HE))));go_wp2;go_roundw
          case rel=>exact⟨0+1,by omega,by go_num,ab,P⟩
          case measure=>simp[ώ];omega
   ·obtain⟨j,ao⟩:∃j,k=j+1:=⟨k-1,by omega⟩
    have HK:Hid (k-1=j):=yz (by omega);have au:=yz ao;have aC:j<k:=by omega
    clear ao;obtain⟨⟨p1,p2,p3,p4⟩,hp⟩:∃s,stA L j=s:=⟨_,rfl⟩
    have HP:=yz hp;clear hp;go_wp2_with fail;clear c0 c1 c2 c3;have H:=yx B1;have C:=yx N1;generalize aj:wr.alloc (ξ #[J Z d,J Z f,J Z g] 93)=O at H C ⊢;generalize ai:wr.1.size=vb at C ⊢;have p:=yz H;have B:=yz C;clear aj ai H C B1 N1 HB;obtain⟨v0,v1,v2⟩:=yx B;have r0:=ϊ v0;have r1:=ϊ v1;have r2:=ϊ v2;clear v0 v1 v2;have q:=((yx HC) (k) t).kept hb (yx p);rw[yx F]at q;have q0:=ϊ q.1;clear q;have q:=((yx HC) j (by omega)).kept hb (yx p);rw[yx HP]at q;have q1:=ϊ q.1;clear q;have az:(k:Int)-1=(j:Int):=by have:=yx au;omega
    have aA:(0:Int)<(k:Int):=by omega
    have aB:(j:Int)<(n:Int):=by omega
    have D:Hid (∀W:ω,χ prog 61 #[J Z U,J Z 1,J Z 9999] W fun e w'=>e=ρ (β (idB U))/\δ W.1.size W w'):=yz (fun W=>(bP U 1 9999 W).mono fun e w' h=>⟨h.1,by rw[h.2];exact ϓ _ _⟩);have G:=yz (fun W=>fg d f g W);have cW:=yz (fun W=>gR 10 d f g W (by omega) (by omega));cases x:idB U
    ·have v:Hid (bE L=φ):=yz (lp (k:=k) (by rw[yx E];exact t) (CA (yx F) x));rw[x]at D;refine de ?_;repeat (go_big_quiet_step (with_reducible first | exact aH D))
     refine di fun u l=>?_;have r:=ak (yx p) (ό O u l);go_wp2;go_ret;exact⟨by rw[yx v];rfl,r⟩
    ·rw[x]at D;by_cases ax:U<=p1
     ·have v:Hid (bE L=φ):=yz (lp (k:=k) (by rw[yx E];exact t) (JU (by unfold upB;rw[yx HK,yx F];simp[yx HP];omega)));refine de ?_;repeat (go_big_quiet_step (with_reducible first | exact aH D))
      refine di fun u l=>?_;have r:=ak (yx p) (ό O u l);go_wp2;go_ret;exact⟨by rw[yx v];rfl,r⟩
     have HU:Hid (upB L k=θ):=yz (by unfold upB;rw[yx HK,yx F];simp[yx HP];omega);have ar:decide (U<=p1)=φ:=by simp;omega
     clear ax;cases N:aD d f g
     ·have v:Hid (bE L=φ):=yz (lp (k:=k) (by rw[yx E];exact t) (qH (yx F) (by unfold aX;rw[N];rfl)));rw[N]at G;refine de ?_;repeat (go_big_quiet_step (with_reducible first | exact aH D | exact aH G))
      refine di fun u l=>?_;have r:=ak (yx p) (ό O u l);go_wp2;go_ret;exact⟨by rw[yx v];rfl,r⟩
     ·rw[N]at G;have cP:=yz (fun W=>iO d f g W N);cases A:aS 10 d f g
      ·have v:Hid (bE L=φ):=yz (lp (k:=k) (by rw[yx E];exact t) (qH (yx F) (by unfold aX;rw[A];simp)));rw[A]at cW;refine de ?_;repeat (go_big_quiet_step (with_reducible first | exact aH D | exact aH G | exact aH cW))
       refine di fun u l=>?_;have r:=ak (yx p) (ό O u l);go_wp2;go_ret;exact⟨by rw[yx v];rfl,r⟩
      ·rw[A]at cW;have M:=fun W=>mB (ύ (d.tdiv (gI d f g))) (ύ (f.tdiv (gI d f g))) (ύ (g.tdiv (gI d f g))) d f g W;have S:eqB (ύ (d.tdiv (gI d f g))) (ύ (f.tdiv (gI d f g))) (ύ (g.tdiv (gI d f g))) d f g=gN d f g:=by rw[BB];unfold gN prI;rw[N];rfl
       rw[S]at M;clear S;generalize ύ (d.tdiv (gI d f g))=V at cP M;generalize ύ (f.tdiv (gI d f g))=X at cP M;generalize ύ (g.tdiv (gI d f g))=Y at cP M;cases z:gN d f g
       ·have v:Hid (bE L=φ):=yz (lp (k:=k) (by rw[yx E];exact t) (CB (yx F) z));rw[z]at M;refine de ?_;repeat (go_big_quiet_step (with_reducible first | exact aH D | exact aH G | exact aH cW | exact aH cP))
        refine di fun u l=>?_;have r:=ak (yx p) (ό O u l);go_wp2;go_ret;exact⟨by rw[yx v];rfl,r⟩
       ·rw[z]at M;have HM:Hid (aX d f g=θ):=yz (by unfold aX;rw[N,A];rfl);have HI:=yz x;have ad:=yz z;refine de ?_;repeat (go_big_quiet_step (with_reducible first | exact aH D | exact aH G | exact aH cW | exact aH cP))
        refine di fun u l=>?_;have r:=ό O u l;have I:=ak (yx p) r;have K:=(yx B).kept (vlt (yx B)) r;generalize grow (redrawn O u) l=W2 at I K r ⊢;have aa:=yz I;have ac:=yz K;clear r I K r0 r1 r2 q0 M D G cW cP x z A N p B q1 ar;go_wp2;go_loopw [5] (fun i wr=>∃m:Nat,m<=k/\i=J Z m/\Hid (rH L (stA L (k)) m)/\Hid (δ w.1.size w wr)/\Hid (aI wr vb d f g)) (fun i _=>(k)-(ώ i).toNat)
        case atStart=>exact⟨0,by omega,rfl,yz (fun j hj=>absurd hj (Nat.not_lt_zero _)),aa,ac⟩
        case round=>
         obtain⟨m,hm,rfl,HE,P,Q⟩:=hrel;by_cases aq:m<k
         ·obtain⟨⟨t1,V,X,Y⟩,ht⟩:∃s,stA L m=s:=⟨_,rfl⟩
          have q:=((yx HC) m (by omega)).kept hb (yx P);rw[ht]at q;have aF:(m:Int)<(n:Int):=by omega
          have aE:(m:Int)<(k:Int):=by omega
          obtain⟨_,g1,g2,g3⟩:=q;have k1:=ϊ g1;have k2:=ϊ g2;have k3:=ϊ g3;clear g1 g2 g3;obtain⟨v0,v1,v2⟩:=yx Q;have r0:=ϊ v0;have r1:=ϊ v1;have r2:=ϊ v2;clear v0 v1 v2
          have HQ:Hid (sY (stA L k) (stA L m)=(eqB (crW X Y f g) (crW Y V g d) (crW V X d f) 0 0 0&&decide (0<dx V X Y d f g))):=yz (by
           have ah:=kw ((yx HF) m (by omega));rw[ht]at ah;have e:=LP ah (yx HM);rw[EJ ah (yx HM)]at e;rw[ht,yx F]
           exact e.symm)
          have cE:=yz (fun W=>nD V X Y d f g W);generalize (eqB (crW X Y f g) (crW Y V g d) (crW V X d f) 0 0 0&&decide (0<dx V X Y d f g))=y at HQ cE;clear ht;go_wp2_with fail;refine de ?_;repeat (go_big_quiet_step (with_reducible first | exact aH cE))
          refine di fun u l=>?_;have r:=ό wr u l;have ae:=ak (yx P) r;have af:=(yx Q).kept (vlt (yx Q)) r;generalize grow (redrawn wr u) l=W4 at r ae af ⊢;have al:=yz ae;have av:=yz af;clear r ae af r0 r1 r2 k1 k2 k3 cE P Q;cases y
          ·go_wp2;go_roundw
           case rel=>exact⟨m+1,by omega,by go_num,yz (yp (yx HE) (yx HQ)),al,av⟩
           case measure=>simp[ώ];omega
          ·have v:Hid (bE L=φ):=yz (lp (k:=k) (by rw[yx E];exact t) (JV (zg aq (yx HQ))));go_wp2;go_ret;exact⟨by rw[yx v];rfl,yx al⟩
         ·have R:m=k:=by omega
          subst R;have ab:=yz (Av (yx HF) (CC (yx F) (yx HI) (yx HU) (yx HM) (yx ad) (wR (yx HE))));go_wp2;go_roundw
          case rel=>exact⟨m+1,by omega,by go_num,ab,P⟩
          case measure=>simp[ώ];omega
  ·have ap:k=n:=by omega
   subst ap;have v:=yz (AH (L:=L) (by rw[yx E];omega) (by rw[yx E];exact yx HF));go_wp2;go_ret;exact⟨by rw[yx v];rfl,yx HB⟩
end
def IB(w:ω)(b o:Nat):Prop:=w.frozen? ⟨b,o,ν⟩=φ/\w.frozen? ⟨b,o+1,ν⟩=φ/\w.frozen? ⟨b,o+2,ν⟩=φ/\w.frozen? ⟨b,o+3,ν⟩=φ
theorem IB.kept{w d:ω}{b o:Nat}(h:IB w b o)(c:b<w.1.size)(a:δ w.1.size w d):IB d b o:=by
 obtain⟨e,f,g,i⟩:=h;exact⟨by rw[a.frozen (p:=⟨b,o,ν⟩) c];exact e,by rw[a.frozen (p:=⟨b,o+1,ν⟩) c];exact f,by rw[a.frozen (p:=⟨b,o+2,ν⟩) c];exact g,by rw[a.frozen (p:=⟨b,o+3,ν⟩) c];exact i⟩
section
def lX(w:ω)(b n:Nat)(L:List St)(k:Nat):Prop:=∃cur:Array μ,w.heap[b]? = ς (ξ cur 130 (0,0))/\cur.size=n*4 /\
 ∀j,j<k->cur[j*4]? = ς (J Z (stA L j).1)/\cur[j*4+1]? = ς (J Z (stA L j).2.1)/\cur[j*4+2]? = ς (J Z (stA L j).2.2.1)/\cur[j*4+3]? = ς (J Z (stA L j).2.2.2)
variable {b k:Nat} {w:ω}
theorem lX.lt{n:Nat}{L:List St}(h:lX w b n L k):b<w.1.size:=by
 obtain⟨a,c,_⟩:=h;exact(Array.getElem?_eq_some_iff.1 c).1
theorem lX.kept{c:ω}{n:Nat}{L:List St}(h:lX w b n L k)(d:δ w.1.size w c):lX c b n L k:=by
 have f:=h.lt;obtain⟨a,e,r⟩:=h;exact⟨a,by rw[d.block b f];exact e,r⟩
theorem lX.stars{n:Nat}{L:List St}(h:lX w b n L k):aO w (ς ⟨b,0,ν⟩) L k:=by
 have l:=h.lt;obtain⟨a,c,_,m⟩:=h;refine .inr ⟨b,0,rfl,l,fun i j=>?_⟩;obtain⟨d,e,f,g⟩:=m i j;rw[Nat.zero_add];exact⟨by rw[cell_of_row w b _ a _ _ c];exact d,by rw[cell_of_row w b _ a _ _ c];exact e,by rw[cell_of_row w b _ a _ _ c];exact f,by rw[cell_of_row w b _ a _ _ c];exact g⟩
theorem lX.old{n i:Nat}{L:List St}(h:lX w b n L k)(d:i<n*4):∃v,w.cell? ⟨b,i,ν⟩=ς v:=by
 obtain⟨a,c,e,_⟩:=h;rw[cell_of_row w b _ a _ _ c];exact⟨a[i],Array.getElem?_eq_getElem (by omega)⟩
theorem lX.free{n:Nat}{L:List St}(h:lX w b n L k)(i:Nat):w.frozen? ⟨b,i,ν⟩=φ:=by
 obtain⟨a,c,_⟩:=h;exact frozen_of_row w b i a _ c
def set4(w:ω)(b o:Nat)(s:St):ω:=(((w.setCell ⟨b,o,ν⟩ (J Z s.1)).setCell ⟨b,o+1,ν⟩ (J Z s.2.1)).setCell ⟨b,o+2,ν⟩ (J Z s.2.2.1)).setCell ⟨b,o+3,ν⟩ (J Z s.2.2.2)
theorem lX.step{n:Nat}{L:List St}(h:lX w b n L k)(t:k<n):lX (set4 w b (k*4) (stA L k)) b n L (k+1):=by
 obtain⟨a,p,q,r⟩:=h;have c:=heap_setCell_same w b (k*4) a _ (J Z (stA L k).1) p;have d:=heap_setCell_same _ b (k*4+1) _ _ (J Z (stA L k).2.1) c;have f:=heap_setCell_same _ b (k*4+2) _ _ (J Z (stA L k).2.2.1) d;have g:=heap_setCell_same _ b (k*4+3) _ _ (J Z (stA L k).2.2.2) f;refine⟨_,g,by simpa using q,fun j s=>?_⟩;by_cases e:j=k
 ·subst e;refine⟨?_,?_,?_,?_⟩<;>simp[Array.getElem?_setIfInBounds]<;>omega
 ·obtain⟨i,l,m,o⟩:=r j (by omega);refine⟨?_,?_,?_,?_⟩
  ·simp only[Array.getElem?_setIfInBounds];rw[if_neg (by omega),if_neg (by omega),if_neg (by omega),if_neg (by omega)];exact i
  ·simp only[Array.getElem?_setIfInBounds];rw[if_neg (by omega),if_neg (by omega),if_neg (by omega),if_neg (by omega)];exact l
  ·simp only[Array.getElem?_setIfInBounds];rw[if_neg (by omega),if_neg (by omega),if_neg (by omega),if_neg (by omega)];exact m
  ·simp only[Array.getElem?_setIfInBounds];rw[if_neg (by omega),if_neg (by omega),if_neg (by omega),if_neg (by omega)];exact o
theorem oq:(prog.info? 130).map (fun i=>(i.zero,i.size,i.bytes))=ς (ς (κ #[J Z 0,J Z 0,J Z 0,J Z 0]),4,32):=by kernel_rfl
end
section
def aR(w:ω)(b:Nat)(p q r s:Int):Prop:=w.cell? ⟨b,0,ν⟩=ς (J Z p)/\w.cell? ⟨b,1,ν⟩=ς (J Z q)/\w.cell? ⟨b,2,ν⟩=ς (J Z r)/\w.cell? ⟨b,3,ν⟩=ς (J Z s)
def ja(w:ω)(b:Nat):Prop:=w.frozen? ⟨b,0,ν⟩=φ/\w.frozen? ⟨b,1,ν⟩=φ/\w.frozen? ⟨b,2,ν⟩=φ/\w.frozen? ⟨b,3,ν⟩=φ
variable {p q r s:Int} {b:Nat} {w w' w1:ω}
theorem aR.kept(h:aR w b p q r s)(c:b<w.1.size)(a:δ w.1.size w w'):aR w' b p q r s:=by
 obtain⟨d,e,f,g⟩:=h;exact⟨by rw[a.cell (p:=⟨b,0,ν⟩) c];exact d,by rw[a.cell (p:=⟨b,1,ν⟩) c];exact e,by rw[a.cell (p:=⟨b,2,ν⟩) c];exact f,by rw[a.cell (p:=⟨b,3,ν⟩) c];exact g⟩
theorem ja.kept(h:ja w b)(c:b<w.1.size)(a:δ w.1.size w w'):ja w' b:=by
 obtain⟨d,e,f,g⟩:=h;exact⟨by rw[a.frozen (p:=⟨b,0,ν⟩) c];exact d,by rw[a.frozen (p:=⟨b,1,ν⟩) c];exact e,by rw[a.frozen (p:=⟨b,2,ν⟩) c];exact f,by rw[a.frozen (p:=⟨b,3,ν⟩) c];exact g⟩
theorem be(w:ω)(p q r s:Int)(t:TypeId):aR (w.alloc (ξ #[J Z p,J Z q,J Z r,J Z s] t)) w.1.size p q r s:=by
 refine⟨?_,?_,?_,?_⟩<;>simp
theorem yo(w:ω)(p q r s:Int)(t:TypeId):ja (w.alloc (ξ #[J Z p,J Z q,J Z r,J Z s] t)) w.1.size:=by
 refine⟨?_,?_,?_,?_⟩<;>simp
theorem aR.lt(h:aR w b p q r s):b<w.1.size:=World.block_lt_of_cell? w _ h.1
theorem aR.alloc(h:aR w b p q r s)(o:Obj):aR (w.alloc o) b p q r s:=h.kept h.lt (an _ _)
theorem uG(h:δ w.1.size w w1)(a:w.1.size<=b)(x y z u:μ):δ w.1.size w ((((w1.setCell ⟨b,0,ν⟩ x).setCell ⟨b,1,ν⟩ y).setCell ⟨b,2,ν⟩ z).setCell ⟨b,3,ν⟩ u):=(((h.setCell a _).setCell a _).setCell a _).setCell a _
theorem bX(h:δ w.1.size w w1)(a:w.1.size<=b)(x y z u v:μ):δ w.1.size w (((((w1.setCell ⟨b,0,ν⟩ x).setCell ⟨b,1,ν⟩ y).setCell ⟨b,2,ν⟩ z).setCell ⟨b,3,ν⟩ u).setCell ⟨b,4,ν⟩ v):=((((h.setCell a _).setCell a _).setCell a _).setCell a _).setCell a _
theorem wU(p q r s:Int)(w:ω):
  χ prog 146 #[κ #[J Z p,J Z q,J Z r,J Z s]] w fun e a=>e=ρ (κ #[J Z p,J Z q,J Z r,J Z s])/\δ w.1.size w a:=by
 go_enter func146,ntmps146;go_wp2;exact ϋ (v:=κ #[J Z p,J Z q,J Z r,J Z s]) (by simp[results,results146,go_sem]) rfl ⟨rfl,aJ _ _ _⟩
theorem uS(b c d e f g i j:Int)(w:ω):(Op.equalIn 10000 24 (κ #[J Z b,J Z c,J Z d,J Z e]) (κ #[J Z f,J Z g,J Z i,J Z j])).run prog w=.ok (eqT b c d e f g i j) w:=by
 have h:=run_equalIn_struct (P:=prog) w 9999 24 #[J Z b,J Z c,J Z d,J Z e] #[J Z f,J Z g,J Z i,J Z j] (by kernel_rfl) (by kernel_rfl);refine h.trans ?_;by_cases a:b=f
 ·by_cases k:c=g
  ·by_cases l:d=i
   ·by_cases m:e=j
    ·simp[go_sem,eqT,a,k,l,m]
    ·simp[go_sem,eqT,a,k,l,m]
   ·simp[go_sem,eqT,a,k,l]
  ·simp[go_sem,eqT,a,k]
 ·simp[go_sem,eqT,a]
theorem JG(a b c d e f g h:Int)(w:ω):(binOp .neq 24 (κ #[J Z a,J Z b,J Z c,J Z d]) (κ #[J Z e,J Z f,J Z g,J Z h])).run prog w=.ok (β (!eqT a b c d e f g h)) w:=by
 rw[run_neq_struct,uS];rfl
theorem gP(a b c d e f g h:Int)(w:ω):(binOp .eql 24 (κ #[J Z a,J Z b,J Z c,J Z d]) (κ #[J Z e,J Z f,J Z g,J Z h])).run prog w=.ok (β (eqT a b c d e f g h)) w:=by
 rw[run_eql_struct,uS];rfl
theorem nS(m p q r s:Int)(w:ω)(t:0<=m)(B:m<=1000000):
  χ prog 115 #[κ #[J Z p,J Z q,J Z r,J Z s],J Z m] w fun e y=>e=ρ (β (inT m p q r s))/\δ w.1.size w y:=by
 have C:∀w:ω,(Instr.index 186 (κ #[J Z p,J Z q,J Z r,J Z s]) (J Z 0)).run prog w=.ok (J Z p) w:=fun _=>by kernel_rfl
 have D:∀w:ω,(Instr.index 186 (κ #[J Z p,J Z q,J Z r,J Z s]) (J Z 1)).run prog w=.ok (J Z q) w:=fun _=>by kernel_rfl
 have E:∀w:ω,(Instr.index 186 (κ #[J Z p,J Z q,J Z r,J Z s]) (J Z 2)).run prog w=.ok (J Z r) w:=fun _=>by kernel_rfl
 have F:∀w:ω,(Instr.index 186 (κ #[J Z p,J Z q,J Z r,J Z s]) (J Z 3)).run prog w=.ok (J Z s) w:=fun _=>by kernel_rfl
 have v:ύ (-m) = -m:=au (by omega) (by omega);go_enter func115,ntmps115;go_wp2_with fail;refine(wU p q r s _).mono ?_;rintro e z ⟨rfl,g⟩;have d:δ w.1.size w z:=ak (an _ _) g;clear g;go_wp2_with fail;go_loop [9] (fun i=>∃k:Nat,k<=4/\i=J Z k/\Hid (0<k->inB m p=θ)/\Hid (1<k->inB m q=θ)/\Hid (2<k->inB m r=θ)/\Hid (3<k->inB m s=θ)) (fun i=>4-(ώ i).toNat)
 case atStart=>exact⟨0,ϑ _,rfl,yz (by omega),yz (by omega),yz (by omega),yz (by omega)⟩
 case round=>
  obtain⟨k,A,rfl,j,n,o,u⟩:=hrel;have l:k=0\/k=1\/k=2\/k=3\/k=4:=by omega
  rcases l with rfl | rfl | rfl | rfl | rfl
  ·by_cases b:-m<=p
   ·by_cases c:p<=m
    ·have f:=yz (jJ.2 ⟨b,c⟩);go_wp2;go_round
     case rel=>exact⟨1,by omega,rfl,yz (fun _=>yx f),yz (by omega),yz (by omega),yz (by omega)⟩
     case measure=>simp[ώ]
    ·have a:=yz (qJ (m:=m) (x:=p) (fun h=>c h.2));go_wp2;go_ret;exact⟨by simp[inT,yx a],d⟩
   ·have a:=yz (qJ (m:=m) (x:=p) (fun h=>b h.1));go_wp2;go_ret;exact⟨by simp[inT,yx a],d⟩
  ·by_cases b:-m<=q
   ·by_cases c:q<=m
    ·have f:=yz (jJ.2 ⟨b,c⟩);go_wp2;go_round
     case rel=>exact⟨2,by omega,rfl,yz (fun _=>yx j (by omega)),yz (fun _=>yx f),yz (by omega),yz (by omega)⟩
     case measure=>simp[ώ]
    ·have a:=yz (qJ (m:=m) (x:=q) (fun h=>c h.2));go_wp2;go_ret;exact⟨by simp[inT,yx a],d⟩
   ·have a:=yz (qJ (m:=m) (x:=q) (fun h=>b h.1));go_wp2;go_ret;exact⟨by simp[inT,yx a],d⟩
  ·by_cases b:-m<=r
   ·by_cases c:r<=m
    ·have f:=yz (jJ.2 ⟨b,c⟩);go_wp2;go_round
     case rel=>exact⟨3,by omega,rfl,yz (fun _=>yx j (by omega)),yz (fun _=>yx n (by omega)),yz (fun _=>yx f),yz (by omega)⟩
     case measure=>simp[ώ]
    ·have a:=yz (qJ (m:=m) (x:=r) (fun h=>c h.2));go_wp2;go_ret;exact⟨by simp[inT,yx a],d⟩
   ·have a:=yz (qJ (m:=m) (x:=r) (fun h=>b h.1));go_wp2;go_ret;exact⟨by simp[inT,yx a],d⟩
  ·by_cases b:-m<=s
   ·by_cases c:s<=m
    ·have f:=yz (jJ.2 ⟨b,c⟩);go_wp2;go_round
     case rel=>exact⟨4,by omega,rfl,yz (fun _=>yx j (by omega)),yz (fun _=>yx n (by omega)),yz (fun _=>yx o (by omega)),yz (fun _=>yx f)⟩
     case measure=>simp[ώ]
    ·have a:=yz (qJ (m:=m) (x:=s) (fun h=>c h.2));go_wp2;go_ret;exact⟨by simp[inT,yx a],d⟩
   ·have a:=yz (qJ (m:=m) (x:=s) (fun h=>b h.1));go_wp2;go_ret;exact⟨by simp[inT,yx a],d⟩
  ·go_wp2;go_ret;exact⟨by simp[inT,yx j (by omega),yx n (by omega),yx o (by omega),yx u (by omega)],d⟩
end
section
theorem pf(m a b c d:Int)(w:ω)(j:0<=m)(n:m<=1000000):
  χ prog 105 #[κ #[J Z a,J Z b,J Z c,J Z d],J Z m] w fun e l=>e=ρ (β (inT m a b c d))/\δ w.1.size w l:=by
 have k:ύ (-m) = -m:=au (by omega) (by omega);go_enter func105,ntmps105;go_wp2_with fail;refine(bP a (-m) m _).mono ?_;rintro e f ⟨rfl,rfl⟩;rw[isB];cases g:inB m a
 ·go_wp2;go_ret;exact⟨by simp[inT,g],an _ _⟩
 ·go_wp2_with fail;refine(bP b (-m) m _).mono ?_;rintro e f ⟨rfl,rfl⟩;rw[isB];cases h:inB m b
  ·go_wp2;go_ret;exact⟨by simp[inT,h],an _ _⟩
  ·go_wp2_with fail;refine(bP c (-m) m _).mono ?_;rintro e f ⟨rfl,rfl⟩;rw[isB];cases i:inB m c
   ·go_wp2;go_ret;exact⟨by simp[inT,i],an _ _⟩
   ·go_wp2_with fail;refine(bP d (-m) m _).mono ?_;rintro e f ⟨rfl,rfl⟩;rw[isB];go_wp2;go_ret;exact⟨by simp[inT,g,h,i],an _ _⟩
variable {b c d:Int}
theorem fT_0{a:Int}(h:a≠0):fT a b c d=a:=by unfold fT;rw[if_pos h]
theorem fT_1(h:b≠0):fT 0 b c d=b:=by unfold fT;rw[if_neg (by simp),if_pos h]
theorem fT_2(h:c≠0):fT 0 0 c d=c:=by unfold fT;rw[if_neg (by simp),if_neg (by simp),if_pos h]
theorem fT_3:fT 0 0 0 d=d:=by unfold fT;rw[if_neg (by simp),if_neg (by simp),if_neg (by simp)]
theorem mu(a b c d:Int)(w:ω):
  χ prog 106 #[κ #[J Z a,J Z b,J Z c,J Z d]] w fun e t=>e=ρ (J Z (fT a b c d))/\δ w.1.size w t:=by
 go_enter func106,ntmps106;go_wp2_with fail;go_loop [4] (fun i=>∃k:Nat,k<=4/\i=J Z k/\Hid (0<k->a=0)/\Hid (1<k->b=0)/\Hid (2<k->c=0)/\Hid (3<k->d=0)) (fun i=>4-(ώ i).toNat)
 case atStart=>exact⟨0,ϑ _,rfl,yz (by omega),yz (by omega),yz (by omega),yz (by omega)⟩
 case round=>
  obtain⟨k,s,rfl,f,g,j,l⟩:=hrel;have q:k=0\/k=1\/k=2\/k=3\/k=4:=by omega
  rcases q with rfl | rfl | rfl | rfl | rfl
  ·have _u:=s;by_cases h:a=0
   ·subst h;clear f g j l;go_wp2;go_round
    case rel=>exact⟨1,by omega,rfl,yz (by simp),yz (by omega),yz (by omega),yz (by omega)⟩
    case measure=>simp[ώ]
   ·have m:Hid (fT a b c d=a):=yz (fT_0 h);clear f g j l;go_wp2;go_ret;exact⟨by rw[yx m];rfl,aJ _ _ _⟩
  ·have n:=yx f (by omega);subst n;by_cases h:b=0
   ·subst h;clear f g j l;go_wp2;go_round
    case rel=>exact⟨2,by omega,rfl,yz (by simp),yz (by simp),yz (by omega),yz (by omega)⟩
    case measure=>simp[ώ]
   ·have m:Hid (fT 0 b c d=b):=yz (fT_1 h);clear f g j l;go_wp2;go_ret;exact⟨by rw[yx m];rfl,aJ _ _ _⟩
  ·have n:=yx f (by omega);have o:=yx g (by omega);subst n o;by_cases h:c=0
   ·subst h;clear f g j l;go_wp2;go_round
    case rel=>exact⟨3,by omega,rfl,yz (by simp),yz (by simp),yz (by simp),yz (by omega)⟩
    case measure=>simp[ώ]
   ·have m:Hid (fT 0 0 c d=c):=yz (fT_2 h);clear f g j l;go_wp2;go_ret;exact⟨by rw[yx m];rfl,aJ _ _ _⟩
  ·have n:=yx f (by omega);have o:=yx g (by omega);have p:=yx j (by omega);subst n o p;by_cases h:d=0
   ·subst h;clear f g j l;go_wp2;go_round
    case rel=>exact⟨4,by omega,rfl,yz (by simp),yz (by simp),yz (by simp),yz (by simp)⟩
    case measure=>simp[ώ]
   ·have m:Hid (fT 0 0 0 d=d):=yz fT_3;clear f g j l;go_wp2;go_ret;exact⟨by rw[yx m];rfl,aJ _ _ _⟩
  ·have n:=yx f (by omega);have o:=yx g (by omega);have p:=yx j (by omega);have r:=yx l (by omega);subst n o p r;clear f g j l;go_wp2;go_ret;exact⟨by rw[fT_3];rfl,aJ _ _ _⟩
theorem vG(a b c d:Int)(w:ω)(h:inT 1000 a b c d=θ):
  χ prog 107 #[κ #[J Z a,J Z b,J Z c,J Z d]] w fun e m=>e=ρ (J Z (gT a b c d))/\δ w.1.size w m:=by
 obtain⟨f,g,i,j⟩:=ej.1 h;have k:=pj f g;have l:=pj i j;go_enter func107,ntmps107;go_wp2_with fail;go_quiet (first | (go_at_call_of 138 (Value.int IntKind.i64 a);refine Calls.quiet_of (ko a b _ (by omega) (by omega))) | (go_at_call_of 138 (Value.int IntKind.i64 c);refine Calls.quiet_of (ko c d _ (by omega) (by omega))) | (go_at_call 138;refine Calls.quiet_of (ko _ _ _ ?_ ?_)<;>omega))
 go_wp2;go_ret;exact⟨rfl,ak (an _ _) (ek _ _)⟩
theorem bM(a b c d:Int)(w:ω):
  χ prog 58 #[κ #[J Z a,J Z b,J Z c,J Z d]] w fun e t=>e=ρ (β (aG a b c d))/\δ w.1.size w t:=by
 go_enter func58,ntmps58;go_wp2_with fail;refine(pf 5 a b c d _ (by omega) (by omega)).mono ?_;rintro e r ⟨rfl,h⟩;have j:aR r w.1.size a b c d:=(be w a b c d _).kept (by simp) h;have g:δ w.1.size w r:=ak (an _ _) h;clear h;have f:=j;obtain⟨m,n,o,p⟩:=j;cases k:inT 5 a b c d
 ·go_wp2;go_ret;exact⟨by simp[aG,k],g⟩
 ·go_wp2_with fail;refine(mu a b c d _).mono ?_;rintro e u ⟨rfl,i⟩;have j:=f.kept f.lt i;replace g:=ak g i;clear i f m n o p;have f:=j;obtain⟨m,n,o,p⟩:=j;by_cases q:0<fT a b c d
  ·go_wp2_with fail;refine(vG a b c d _ (BY k (by omega))).mono ?_;rintro e v ⟨rfl,l⟩;replace g:=ak g l;go_wp2;go_ret;exact⟨by rw[aG,k,decide_eq_true q];rfl,g⟩
  ·have s:=yz (decide_eq_false q);go_wp2;go_ret;exact⟨by rw[aG,k,yx s];rfl,g⟩
end
section
def ptT(a b c d:Int):Nat->Int
 | 0=>a
 | 1=>b
 | 2=>c
 | _=>d
def gS4(a b c d:Int):Nat->Int
 | 0=>0
 | k+1=>((Int.gcd (gS4 a b c d k) (ptT a b c d k):Nat):Int)
def fS4(a b c d:Int):Nat->Int
 | 0=>0
 | k+1=>if fS4 a b c d k=0 then ptT a b c d k else fS4 a b c d k
variable {a b c d:Int} {k:Nat}
theorem wo{m:Int}(h:inT m a b c d=θ)(k:Nat):-m<=ptT a b c d k/\ptT a b c d k<=m:=by
 obtain⟨e,f,g,i⟩:=ej.1 h
 match k with
 | 0=>exact e
 | 1=>exact f
 | 2=>exact g
 | _+3=>exact i
theorem rI(h:inT 1000 a b c d=θ)(k:Nat):-1000000<=gS4 a b c d k/\gS4 a b c d k<=1000000:=by
 have:0<=gS4 a b c d k/\gS4 a b c d k<=1000:=by
  induction k with
  | zero=>exact⟨by show (0:Int)<=0;omega,by show (0:Int)<=1000;omega⟩
  | succ k ih=>exact pj (m:=1000) (by omega) (wo h k)
 omega
theorem Lr(a b c d:Int):fS4 a b c d 4=fT a b c d:=by
 unfold fT;by_cases e:a=0
 ·by_cases f:b=0
  ·by_cases g:c=0
   ·simp[fS4,ptT,e,f,g]
   ·simp[fS4,ptT,e,f,g]
  ·simp[fS4,ptT,e,f]
 ·simp[fS4,ptT,e]
theorem FC(h:fS4 a b c d k=0):fS4 a b c d (k+1)=ptT a b c d k:=by
 show (if fS4 a b c d k=0 then ptT a b c d k else fS4 a b c d k)=_;rw[if_pos h]
theorem FB(h:fS4 a b c d k≠0):fS4 a b c d (k+1)=fS4 a b c d k:=by
 show (if fS4 a b c d k=0 then ptT a b c d k else fS4 a b c d k)=_;rw[if_neg h]
theorem sX(a b c d:Int)(w:ω)(h:inT 1000 a b c d=θ)(T:¬(a=0/\b=0/\c=0/\d=0)):
  χ prog 116 #[κ #[J Z a,J Z b,J Z c,J Z d]] w fun e w'=>e=ρ (κ #[J Z (a.tdiv (sT a b c d)),J Z (b.tdiv (sT a b c d)),J Z (c.tdiv (sT a b c d)),J Z (d.tdiv (sT a b c d))])/\δ w.1.size w w':=by
 have i0:∀w:ω,(Instr.index 186 (κ #[J Z a,J Z b,J Z c,J Z d]) (J Z 0)).run prog w=.ok (J Z a) w:=fun _=>by kernel_rfl
 have i1:∀w:ω,(Instr.index 186 (κ #[J Z a,J Z b,J Z c,J Z d]) (J Z 1)).run prog w=.ok (J Z b) w:=fun _=>by kernel_rfl
 have i2:∀w:ω,(Instr.index 186 (κ #[J Z a,J Z b,J Z c,J Z d]) (J Z 2)).run prog w=.ok (J Z c) w:=fun _=>by kernel_rfl
 have i3:∀w:ω,(Instr.index 186 (κ #[J Z a,J Z b,J Z c,J Z d]) (J Z 3)).run prog w=.ok (J Z d) w:=fun _=>by kernel_rfl
 have p:=yz h;have P:=yz T;have z:Hid (∀(x s:Int),-1000<=x/\x<=1000->ύ (x.tdiv s)=x.tdiv s):=yz (fun x s hx=>by have:=Gl (s:=s) hx;exact au (by omega) (by omega));clear h T;go_enter func116,ntmps116;go_wp2_with fail;refine(wU a b c d _).mono ?_;rintro e r ⟨rfl,q⟩;have C:aR r w.1.size a b c d:=((be w a b c d _).alloc _).kept (by simp;omega) q;have D:aR r (w.1.size+1) 0 0 0 0:=(by simpa using be (w.alloc _) 0 0 0 0 _:aR _ (w.1.size+1) 0 0 0 0).kept (by simp) q;have A:ja r (w.1.size+1):=(by simpa using yo (w.alloc _) 0 0 0 0 _:ja _ (w.1.size+1)).kept (by simp) q;have B:δ w.1.size w r:=ak (aJ _ _ _) q;clear q;have Q:=yz C;have R:=yz D;have Fr:=yz A;have O:=yz B;clear C D A B;go_wp2;go_loopw [3,4,9] (fun u f i wr=>∃(k n:Nat),k<=4/\i=J Z k/\u=J Z (gS4 a b c d k)/\f=J Z (fS4 a b c d k)/\wr=r.drewN n) (fun _ _ i _=>4-(ώ i).toNat)
 case atStart=>exact⟨0,0,by omega,rfl,rfl,rfl,rfl⟩
 case round=>
  obtain⟨k,n,hk,rfl,rfl,rfl,rfl⟩:=hrel;have M:k=0\/k=1\/k=2\/k=3\/k=4:=by omega
  rcases M with rfl | rfl | rfl | rfl | rfl
  ·go_wp2_with fail;refine(ig _ a _ (rI (yx p) 0) (by have:=wo (yx p) 0;simp only[ptT]at this;omega)).mono ?_;rintro e F ⟨rfl,m,rfl⟩;have o:((Int.gcd (gS4 a b c d 0) a:Nat):Int)=gS4 a b c d 1:=rfl;rw[o];clear o;by_cases j:fS4 a b c d 0=0
   ·have l:=yz (FC j);rw[j];clear j;go_wp2;go_roundw
    case rel=>exact⟨1,n+m,by omega,rfl,rfl,by rw[yx l];rfl,by simp⟩
    case measure=>simp[ώ]
   ·have l:=yz (FB j);have L:(fS4 a b c d 0==0)=φ:=by simpa using j
    clear j;go_wp2;go_roundw
    case rel=>exact⟨1,n+m,by omega,rfl,rfl,by rw[yx l],by simp⟩
    case measure=>simp[ώ]
  ·go_wp2_with fail;refine(ig _ b _ (rI (yx p) 1) (by have:=wo (yx p) 1;simp only[ptT]at this;omega)).mono ?_;rintro e F ⟨rfl,m,rfl⟩;have o:((Int.gcd (gS4 a b c d 1) b:Nat):Int)=gS4 a b c d 2:=rfl;rw[o];clear o;by_cases j:fS4 a b c d 1=0
   ·have l:=yz (FC j);rw[j];clear j;go_wp2;go_roundw
    case rel=>exact⟨2,n+m,by omega,rfl,rfl,by rw[yx l];rfl,by simp⟩
    case measure=>simp[ώ]
   ·have l:=yz (FB j);have L:(fS4 a b c d 1==0)=φ:=by simpa using j
    clear j;go_wp2;go_roundw
    case rel=>exact⟨2,n+m,by omega,rfl,rfl,by rw[yx l],by simp⟩
    case measure=>simp[ώ]
  ·go_wp2_with fail;refine(ig _ c _ (rI (yx p) 2) (by have:=wo (yx p) 2;simp only[ptT]at this;omega)).mono ?_;rintro e F ⟨rfl,m,rfl⟩;have o:((Int.gcd (gS4 a b c d 2) c:Nat):Int)=gS4 a b c d 3:=rfl;rw[o];clear o;by_cases j:fS4 a b c d 2=0
   ·have l:=yz (FC j);rw[j];clear j;go_wp2;go_roundw
    case rel=>exact⟨3,n+m,by omega,rfl,rfl,by rw[yx l];rfl,by simp⟩
    case measure=>simp[ώ]
   ·have l:=yz (FB j);have L:(fS4 a b c d 2==0)=φ:=by simpa using j
    clear j;go_wp2;go_roundw
    case rel=>exact⟨3,n+m,by omega,rfl,rfl,by rw[yx l],by simp⟩
    case measure=>simp[ώ]
  ·go_wp2_with fail;refine(ig _ d _ (rI (yx p) 3) (by have:=wo (yx p) 3;simp only[ptT]at this;omega)).mono ?_;rintro e F ⟨rfl,m,rfl⟩;have o:((Int.gcd (gS4 a b c d 3) d:Nat):Int)=gS4 a b c d 4:=rfl;rw[o];clear o;by_cases j:fS4 a b c d 3=0
   ·have l:=yz (FC j);rw[j];clear j;go_wp2;go_roundw
    case rel=>exact⟨4,n+m,by omega,rfl,rfl,by rw[yx l];rfl,by simp⟩
    case measure=>simp[ώ]
   ·have l:=yz (FB j);have L:(fS4 a b c d 3==0)=φ:=by simpa using j
    clear j;go_wp2;go_roundw
    case rel=>exact⟨4,n+m,by omega,rfl,rfl,by rw[yx l],by simp⟩
    case measure=>simp[ώ]
  ·have o:gS4 a b c d 4=gT a b c d:=vo a b c d;rw[o,Lr];clear o i0 i1 i2 i3;have S:ύ (-gT a b c d) = -gT a b c d:=by have:=rI (yx p) 4;rw[show gS4 a b c d 4=gT a b c d from vo a b c d]at this;exact au (by omega) (by omega)
   have U:Hid (∀g,g=sT a b c d->Value.agg #[J Z (ύ (a.tdiv g)),J Z (ύ (b.tdiv g)),J Z (ύ (c.tdiv g)),J Z (ύ (d.tdiv g))]=κ #[J Z (a.tdiv (sT a b c d)),J Z (b.tdiv (sT a b c d)),J Z (c.tdiv (sT a b c d)),J Z (d.tdiv (sT a b c d))]):=yz (by
    rintro g rfl;obtain⟨x1,x2,x3,x4⟩:=ej.1 (yx p)
    rw[yx z _ _ x1,yx z _ _ x2,yx z _ _ x3,yx z _ _ x4])
   have y:Hid (sT a b c d≠0):=yz (Mw (yx P));have C:aR (r.drewN n) w.1.size a b c d:=yx Q;have D:aR (r.drewN n) (w.1.size+1) 0 0 0 0:=yx R;have A:ja (r.drewN n) (w.1.size+1):=yx Fr;have B:δ w.1.size w (r.drewN n):=ak (yx O) (ek _ _);clear Q R Fr O z p P;by_cases j:fT a b c d<0
   focus
    have t:sT a b c d = -gT a b c d:=by unfold sT;rw[if_pos j]
    have E:=yz t.symm;rw[t]at y;go_wp2_with fail;rw[S];generalize -gT a b c d=g at y E ⊢
   rotate_left
   focus
    have t:sT a b c d=gT a b c d:=by unfold sT;rw[if_neg j]
    have E:=yz t.symm;rw[t]at y;go_wp2_with fail;generalize gT a b c d=g at y E ⊢
   rotate_left
   all_goals
    clear S t j;have N:g≠0:=yx y;have ad:(g==0)=φ:=by simpa using N
    generalize r.drewN n=F at C D A B ⊢;obtain⟨V,W,X,Y⟩:=C;obtain⟨G,H,I,K⟩:=D;obtain⟨fr0,aa,ab,ac⟩:=A;go_region
    go_wp2;exact ϋ (v:=_) (by simp[results,results116,go_sem,G,H,I,K]) rfl ⟨congrArg _ (yx U g (yx E)),(uG B (by omega) _ _ _ _).drew⟩
theorem nX(h:kG a b c d=φ):¬(a=0/\b=0/\c=0/\d=0):=fun e=>by rw[lW.2 e]at h;exact absurd h (by decide)
theorem CQ(h:kG a b c d=θ):aG a b c d=φ:=by
 cases e:aG a b c d
 ·rfl
 ·exact absurd (lW.1 h) (rZ e)
theorem dg(a b c d:Int)(w:ω):
  χ prog 76 #[κ #[J Z a,J Z b,J Z c,J Z d]] w fun e x=>e=ρ (β (aG a b c d))/\δ w.1.size w x:=by
 have r:=fun w=>JG a b c d 0 0 0 0 w;have g:=be w a b c d 24;have f:=an w (ξ #[J Z a,J Z b,J Z c,J Z d] 24);cases o:eqT a b c d 0 0 0 0
 ·rw[o]at r;have z:=yz (nX (show kG a b c d=φ from o));cases n:inT 5 a b c d
  ·have p:Hid (aG a b c d=φ):=yz (by rw[aG,n];rfl);have cW:=yz (fun W=>(nS 5 a b c d W (by omega) (by omega)).mono (fun e x h=>(⟨by rw[h.1,n],h.2⟩:e=ρ (β φ)/\δ W.1.size W x)));clear n o;go_enter func76,ntmps76;go_wp2_with fail;generalize w.alloc (ξ #[J Z a,J Z b,J Z c,J Z d] 24)=y at g f ⊢;obtain⟨j,k,l,m⟩:=g;have s:=ϊ j;have t:=ϊ k;have u:=ϊ l;have v:=ϊ m;refine de ?_;repeat (quiet_step (exact Calls.regrown_of (yx cW _)))
   refine di fun q i=>?_;clear j k l m s t u v r;go_wp2;go_ret;exact⟨by rw[yx p];rfl,ak f (ό y q i)⟩
  ·have p:=yz (xH (yx z));have B:Hid (aG a b c d=(decide (0<fT a b c d)&&decide (gT a b c d=1))):=yz (by rw[aG,n,Bool.true_and]);have cW:=yz (fun W=>(nS 5 a b c d W (by omega) (by omega)).mono (fun e x h=>(⟨by rw[h.1,n],h.2⟩:e=ρ (β θ)/\δ W.1.size W x)));have C:=yz (fun W=>sX a b c d W (BY n (by omega)) (yx z));have A:=fun w=>gP a b c d (a.tdiv (sT a b c d)) (b.tdiv (sT a b c d)) (c.tdiv (sT a b c d)) (d.tdiv (sT a b c d)) w;rw[yx p]at A;clear n o z p;go_enter func76,ntmps76;go_wp2_with fail;generalize w.alloc (ξ #[J Z a,J Z b,J Z c,J Z d] 24)=y at g f ⊢;obtain⟨j,k,l,m⟩:=g;have s:=ϊ j;have t:=ϊ k;have u:=ϊ l;have v:=ϊ m;refine de ?_;repeat (quiet_step (with_reducible first | exact aH cW | exact aH C))
   refine di fun q i=>?_;clear j k l m s t u v r A;go_wp2;go_ret;exact⟨by rw[yx B];rfl,ak f (ό y q i)⟩
 ·rw[o]at r;have p:=yz (CQ (show kG a b c d=θ from o));clear o;go_enter func76,ntmps76;go_wp2_with fail;generalize w.alloc (ξ #[J Z a,J Z b,J Z c,J Z d] 24)=y at g f ⊢;obtain⟨j,k,l,m⟩:=g;have s:=ϊ j;have t:=ϊ k;have u:=ϊ l;have v:=ϊ m;refine de ?_;repeat (quiet_step (fail))
  refine di fun q i=>?_;clear j k l m s t u v r;go_wp2;go_ret;exact⟨by rw[yx p];rfl,ak f (ό y q i)⟩
end
section
def eK(w:ω)(b:Nat)(p q r s k:Int):Prop:=w.cell? ⟨b,0,ν⟩=ς (J Z p)/\w.cell? ⟨b,1,ν⟩=ς (J Z q)/\w.cell? ⟨b,2,ν⟩=ς (J Z r)/\w.cell? ⟨b,3,ν⟩=ς (J Z s)/\w.cell? ⟨b,4,ν⟩=ς (J Z k)
def kI(w:ω)(b:Nat):Prop:=w.frozen? ⟨b,0,ν⟩=φ/\w.frozen? ⟨b,1,ν⟩=φ/\w.frozen? ⟨b,2,ν⟩=φ/\w.frozen? ⟨b,3,ν⟩=φ/\w.frozen? ⟨b,4,ν⟩=φ
variable {k p q r s:Int} {b:Nat} {w w':ω}
theorem eK.lt(h:eK w b p q r s k):b<w.1.size:=World.block_lt_of_cell? w _ h.1
theorem eK.kept(h:eK w b p q r s k)(a:δ w.1.size w w'):eK w' b p q r s k:=by
 have c:=h.lt;obtain⟨d,e,f,g,i⟩:=h;exact⟨by rw[a.cell (p:=⟨b,0,ν⟩) c];exact d,by rw[a.cell (p:=⟨b,1,ν⟩) c];exact e,by rw[a.cell (p:=⟨b,2,ν⟩) c];exact f,by rw[a.cell (p:=⟨b,3,ν⟩) c];exact g,by rw[a.cell (p:=⟨b,4,ν⟩) c];exact i⟩
theorem kI.kept(h:kI w b)(c:b<w.1.size)(a:δ w.1.size w w'):kI w' b:=by
 obtain⟨d,e,f,g,i⟩:=h;exact⟨by rw[a.frozen (p:=⟨b,0,ν⟩) c];exact d,by rw[a.frozen (p:=⟨b,1,ν⟩) c];exact e,by rw[a.frozen (p:=⟨b,2,ν⟩) c];exact f,by rw[a.frozen (p:=⟨b,3,ν⟩) c];exact g,by rw[a.frozen (p:=⟨b,4,ν⟩) c];exact i⟩
theorem eO(w:ω)(p q r s k:Int)(t:TypeId):eK (w.alloc (ξ #[J Z p,J Z q,J Z r,J Z s,J Z k] t)) w.1.size p q r s k:=by
 refine⟨?_,?_,?_,?_,?_⟩<;>simp
theorem jW(w:ω)(p q r s k:Int)(t:TypeId):kI (w.alloc (ξ #[J Z p,J Z q,J Z r,J Z s,J Z k] t)) w.1.size:=by
 refine⟨?_,?_,?_,?_,?_⟩<;>simp
theorem eK.alloc(h:eK w b p q r s k)(o:Obj):eK (w.alloc o) b p q r s k:=h.kept (an _ _)
end
section
variable {a b c d:Int}
theorem ug(h:(inT 1000 a b c d && !kG a b c d)=φ):Value.agg #[J Z (ofP a b c d a),J Z (ofP a b c d b),J Z (ofP a b c d c),J Z (ofP a b c d d),J Z (ofC a b c d)]=Value.agg #[J Z 0,J Z 0,J Z 0,J Z 0,J Z 1]:=by
 unfold ofP;rw[JS h];rfl
theorem At(f:inT 1000 a b c d=θ)(g:kG a b c d=φ)(h:aG (a.tdiv (sT a b c d)) (b.tdiv (sT a b c d)) (c.tdiv (sT a b c d)) (d.tdiv (sT a b c d))=φ):Value.agg #[J Z (ofP a b c d a),J Z (ofP a b c d b),J Z (ofP a b c d c),J Z (ofP a b c d d),J Z (ofC a b c d)]=Value.agg #[J Z 0,J Z 0,J Z 0,J Z 0,J Z 9]:=by
 have e:ofC a b c d=9:=by unfold ofC;rw[f,g,h];rfl
 unfold ofP;rw[e];rfl
theorem JT(f:inT 1000 a b c d=θ)(g:kG a b c d=φ)(h:aG (a.tdiv (sT a b c d)) (b.tdiv (sT a b c d)) (c.tdiv (sT a b c d)) (d.tdiv (sT a b c d))=θ):Value.agg #[J Z (ofP a b c d a),J Z (ofP a b c d b),J Z (ofP a b c d c),J Z (ofP a b c d d),J Z (ofC a b c d)]=Value.agg #[J Z (a.tdiv (sT a b c d)),J Z (b.tdiv (sT a b c d)),J Z (c.tdiv (sT a b c d)),J Z (d.tdiv (sT a b c d)),J Z 0]:=by
 have e:ofC a b c d=0:=by unfold ofC;rw[f,g,h];rfl
 unfold ofP;rw[e];rfl
theorem Fc(a b c d:Int)(w:ω):
  χ prog 188 #[J Z a,J Z b,J Z c,J Z d] w fun e X=>e=ρ (κ #[J Z (ofP a b c d a),J Z (ofP a b c d b),J Z (ofP a b c d c),J Z (ofP a b c d d),J Z (ofC a b c d)])/\δ w.1.size w X:=by
 have O:=fun w=>gP a b c d 0 0 0 0 w;cases F:eqT a b c d 0 0 0 0
 ·rw[F]at O;have I:=yz (show kG a b c d=φ from F);clear F;go_enter func188,ntmps188;go_wp2_with fail;refine(nS 1000 a b c d _ (by omega) (by omega)).mono ?_;rintro e H ⟨rfl,f⟩;have j:eK H w.1.size 0 0 0 0 0:=((eO w 0 0 0 0 0 _).alloc _).kept f;have y:kI H w.1.size:=((jW w 0 0 0 0 0 _).kept (by simp) (an _ _)).kept (by simp;omega) f;have R:aR H (w.1.size+1) a b c d:=(by simpa using be (w.alloc _) a b c d _:aR _ (w.1.size+1) a b c d).kept (by simp) f;have z:δ w.1.size w H:=ak (aJ _ _ _) f;clear f O;cases G:inT 1000 a b c d
  ·have l:=yz (ug (a:=a) (b:=b) (c:=c) (d:=d) (by rw[G];rfl));obtain⟨m,n,o,t,u⟩:=j;obtain⟨fr0,h,C,D,E⟩:=y;go_wp2;exact ϋ (v:=κ #[J Z 0,J Z 0,J Z 0,J Z 0,J Z 1]) (by simp[results,results188,go_sem,m,n,o,t,u]) rfl ⟨by rw[yx l],bX z (by omega) _ _ _ _ _⟩
  ·have P:=R;obtain⟨K,L,M,N⟩:=R;go_wp2_with fail;refine(sX a b c d _ G (nX (yx I))).mono ?_;rintro e Q ⟨rfl,A⟩;have x:=j.lt;replace j:=j.kept A;replace y:=y.kept x A;replace z:=ak z A;clear A P K L M N;cases k:aG (a.tdiv (sT a b c d)) (b.tdiv (sT a b c d)) (c.tdiv (sT a b c d)) (d.tdiv (sT a b c d))
   ·have l:=yz (At G (yx I) k);generalize a.tdiv (sT a b c d)=p at k ⊢;generalize b.tdiv (sT a b c d)=q at k ⊢;generalize c.tdiv (sT a b c d)=r at k ⊢;generalize d.tdiv (sT a b c d)=s at k ⊢;have i:=j.alloc (ξ #[J Z p,J Z q,J Z r,J Z s] 24);have h:=y.kept j.lt (an Q (ξ #[J Z p,J Z q,J Z r,J Z s] 24));have f:=z.alloc (ϒ (j.lt)) (ξ #[J Z p,J Z q,J Z r,J Z s] 24);go_wp2_with fail;refine(dg p q r s _).mono ?_;rintro e Y ⟨rfl,g⟩;rw[k];have x:=i.lt;replace j:=i.kept g;replace y:=h.kept x g;replace z:=ak f g;clear g i h f;obtain⟨m,n,o,t,u⟩:=j;obtain⟨fr0,h,C,D,E⟩:=y;go_wp2;exact ϋ (v:=κ #[J Z 0,J Z 0,J Z 0,J Z 0,J Z 9]) (by simp[results,results188,go_sem,m,n,o,t,u]) rfl ⟨by rw[yx l],bX z (by omega) _ _ _ _ _⟩
   ·have l:=yz (JT G (yx I) k);generalize a.tdiv (sT a b c d)=p at k l ⊢;generalize b.tdiv (sT a b c d)=q at k l ⊢;generalize c.tdiv (sT a b c d)=r at k l ⊢;generalize d.tdiv (sT a b c d)=s at k l ⊢;have i:=j.alloc (ξ #[J Z p,J Z q,J Z r,J Z s] 24);have h:=y.kept j.lt (an Q (ξ #[J Z p,J Z q,J Z r,J Z s] 24));have B:=be Q p q r s 24;have f:=z.alloc (ϒ (j.lt)) (ξ #[J Z p,J Z q,J Z r,J Z s] 24);go_wp2_with fail;refine(dg p q r s _).mono ?_;rintro e Y ⟨rfl,g⟩;rw[k];have x:=i.lt;replace j:=i.kept g;replace y:=h.kept x g;have W:=B.kept B.lt g;replace z:=ak f g;clear g i h f B;obtain⟨m,n,o,t,u⟩:=j;obtain⟨fr0,h,C,D,E⟩:=y;obtain⟨S,T,U,V⟩:=W;go_wp2;exact ϋ (v:=κ #[J Z p,J Z q,J Z r,J Z s,J Z 0]) (by simp[results,results188,go_sem,m,n,o,t,u]) rfl ⟨by rw[yx l],bX z (by omega) _ _ _ _ _⟩
 ·rw[F]at O;have l:=yz (ug (a:=a) (b:=b) (c:=c) (d:=d) (by rw[show kG a b c d=θ from F];simp));go_enter func188,ntmps188;go_wp2;exact ϋ (v:=κ #[J Z 0,J Z 0,J Z 0,J Z 0,J Z 1]) (by simp[results,results188,go_sem]) rfl ⟨by rw[yx l],aJ _ _ _⟩
end
theorem NZ{a b c d:Int}(h:inT 1000 a b c d=θ)(g:Int)(f:g=sT a b c d):ύ (a.tdiv g)=a.tdiv (sT a b c d)/\ύ (b.tdiv g)=b.tdiv (sT a b c d)/\ύ (c.tdiv g)=c.tdiv (sT a b c d)/\ύ (d.tdiv g)=d.tdiv (sT a b c d):=by
 subst f;obtain⟨j,k,l,m⟩:=ej.1 h;have e:∀(x s:Int),-1000<=x/\x<=1000->ύ (x.tdiv s)=x.tdiv s:=fun x s i=>by have:=Gl (s:=s) i;exact au (by omega) (by omega)
 exact⟨e _ _ j,e _ _ k,e _ _ l,e _ _ m⟩
theorem Hd(a b c d:Int)(w:ω)(h:inT 1000 a b c d=θ)(hz:kG a b c d=φ):
  χ prog 125 #[κ #[J Z a,J Z b,J Z c,J Z d]] w fun e w'=>e=ρ (κ #[J Z (ofP a b c d a),J Z (ofP a b c d b),J Z (ofP a b c d c),J Z (ofP a b c d d),J Z (ofC a b c d)])/\δ w.1.size w w':=by
 have U:=yz h;have HZ:=yz hz;have M:Hid (sT a b c d≠0):=yz (Mw (nX hz));have HW:=yz (NZ h);have hw:ύ (-gT a b c d) = -gT a b c d:=by have:=rI h 4;rw[show gS4 a b c d 4=gT a b c d from vo a b c d]at this;exact au (by omega) (by omega)
 clear h hz;go_enter func125,ntmps125;go_wp2_with fail;refine(vG a b c d _ (yx U)).mono ?_;rintro e T ⟨rfl,n⟩;have I:aR T w.1.size a b c d:=((be w a b c d _).alloc _).kept (by simp;omega) n;have j:eK T (w.1.size+1) 0 0 0 0 0:=(by simpa using eO (w.alloc _) 0 0 0 0 0 _:eK _ (w.1.size+1) 0 0 0 0 0).kept n;have k:kI T (w.1.size+1):=(by simpa using jW (w.alloc _) 0 0 0 0 0 _:kI _ (w.1.size+1)).kept (by simp) n;have l:δ w.1.size w T:=ak (aJ _ _ _) n;clear n;have H:=I;obtain⟨t,u,x,y⟩:=I;go_wp2_with fail;refine(mu a b c d _).mono ?_;rintro e R ⟨rfl,o⟩;have f:=j.lt;have I:=H.kept H.lt o;replace j:=j.kept o;replace k:=k.kept f o;replace l:=ak l o;clear o H t u x y f;by_cases hf:fT a b c d<0
 focus
  have L:sT a b c d = -gT a b c d:=by unfold sT;rw[if_pos hf]
  have S:=yz L.symm;rw[L]at M;have K:=I.alloc (ξ #[J Z 0,J Z 0,J Z 0,J Z 0] 24);obtain⟨t,u,x,y⟩:=I;obtain⟨N,O,P,Q⟩:=K;go_wp2_with fail;rw[hw];generalize -gT a b c d=g at M S ⊢
 rotate_left
 focus
  have L:sT a b c d=gT a b c d:=by unfold sT;rw[if_neg hf]
  have S:=yz L.symm;rw[L]at M;have K:=I.alloc (ξ #[J Z 0,J Z 0,J Z 0,J Z 0] 24);obtain⟨t,u,x,y⟩:=I;obtain⟨N,O,P,Q⟩:=K;go_wp2_with fail;generalize gT a b c d=g at M S ⊢
 rotate_left
 all_goals
  clear hw L hf;have aa:g≠0:=yx M;have af:(g==0)=φ:=by simpa using aa
  go_region
  go_wp2_with fail;obtain⟨e1,e2,e3,e4⟩:=yx HW g (yx S);rw[e1,e2,e3,e4];clear e1 e2 e3 e4 HW N O P Q t u x y;cases m:aG (a.tdiv (sT a b c d)) (b.tdiv (sT a b c d)) (c.tdiv (sT a b c d)) (d.tdiv (sT a b c d))
  ·have B:=yz (At (yx U) (yx HZ) m);generalize a.tdiv (sT a b c d)=p at m ⊢;generalize b.tdiv (sT a b c d)=q at m ⊢;generalize c.tdiv (sT a b c d)=r at m ⊢;generalize d.tdiv (sT a b c d)=s at m ⊢;have z:=(an R (ξ #[J Z p,J Z q,J Z r,J Z s] 24)).drew;have f:=j.lt;replace j:=j.kept z;replace k:=k.kept f z;replace l:=ak l z;clear z f;refine(bM p q r s _).mono ?_;rintro e w3 ⟨rfl,i⟩;rw[m];have f:=j.lt;replace j:=j.kept i;replace k:=k.kept f i;replace l:=ak l i;clear i f;obtain⟨C,D,E,F,G⟩:=j;obtain⟨fr0,V,W,X,Y⟩:=k;go_wp2;exact ϋ (v:=κ #[J Z 0,J Z 0,J Z 0,J Z 0,J Z 9]) (by simp[results,results125,go_sem,C,D,E,F,G]) rfl ⟨by rw[yx B],bX l (by omega) _ _ _ _ _⟩
  ·have B:=yz (JT (yx U) (yx HZ) m);generalize a.tdiv (sT a b c d)=p at m B ⊢;generalize b.tdiv (sT a b c d)=q at m B ⊢;generalize c.tdiv (sT a b c d)=r at m B ⊢;generalize d.tdiv (sT a b c d)=s at m B ⊢;have z:=(an R (ξ #[J Z p,J Z q,J Z r,J Z s] 24)).drew;have f:=j.lt;have A:aR (R.alloc (ξ #[J Z p,J Z q,J Z r,J Z s] 24)).drew R.1.size p q r s:=be R p q r s _;replace j:=j.kept z;replace k:=k.kept f z;replace l:=ak l z;clear z f;refine(bM p q r s _).mono ?_;rintro e w3 ⟨rfl,i⟩;rw[m];have f:=j.lt;replace j:=j.kept i;replace k:=k.kept f i;replace A:=A.kept A.lt i;obtain⟨ab,ac,ad,ae⟩:=A;replace l:=ak l i;clear i f;obtain⟨C,D,E,F,G⟩:=j;obtain⟨fr0,V,W,X,Y⟩:=k;go_wp2;exact ϋ (v:=κ #[J Z p,J Z q,J Z r,J Z s,J Z 0]) (by simp[results,results125,go_sem,C,D,E,F,G]) rfl ⟨by rw[yx B],bX l (by omega) _ _ _ _ _⟩
theorem nP(a b c d:Int)(w:ω):
  χ prog 84 #[J Z a,J Z b,J Z c,J Z d] w fun e I=>e=ρ (κ #[J Z (ofP a b c d a),J Z (ofP a b c d b),J Z (ofP a b c d c),J Z (ofP a b c d d),J Z (ofC a b c d)])/\δ w.1.size w I:=by
 go_enter func84,ntmps84;go_wp2_with fail;refine(pf 1000 a b c d _ (by omega) (by omega)).mono ?_;rintro e E ⟨rfl,k⟩;have o:eK E w.1.size 0 0 0 0 0:=((eO w 0 0 0 0 0 _).alloc _).kept k;have t:kI E w.1.size:=((jW w 0 0 0 0 0 _).kept (by simp) (an _ _)).kept (by simp;omega) k;have D:aR E (w.1.size+1) a b c d:=(by simpa using be (w.alloc _) a b c d _:aR _ (w.1.size+1) a b c d).kept (by simp) k;have u:δ w.1.size w E:=ak (aJ _ _ _) k;clear k;cases G:inT 1000 a b c d
 ·have F:=yz (ug (a:=a) (b:=b) (c:=c) (d:=d) (by rw[G];rfl));obtain⟨f,g,h,i,j⟩:=o;obtain⟨fr0,y,z,A,B⟩:=t;go_wp2;exact ϋ (v:=κ #[J Z 0,J Z 0,J Z 0,J Z 0,J Z 1]) (by simp[results,results84,go_sem,f,g,h,i,j]) rfl ⟨by rw[yx F],bX u (by omega) _ _ _ _ _⟩
 ·have x:=D;obtain⟨p,q,r,s⟩:=D;go_wp2_with fail;refine(mu a b c d _).mono ?_;rintro e L ⟨rfl,l⟩;have m:=o.lt;replace o:=o.kept l;replace t:=t.kept m l;have D:=x.kept x.lt l;replace u:=ak u l;clear l x p q r s m;by_cases C:fT a b c d=0
  ·have F:=yz (ug (a:=a) (b:=b) (c:=c) (d:=d) (by rw[lW.2 (tX.1 C)];simp));rw[C];obtain⟨f,g,h,i,j⟩:=o;obtain⟨fr0,y,z,A,B⟩:=t;go_wp2;exact ϋ (v:=κ #[J Z 0,J Z 0,J Z 0,J Z 0,J Z 1]) (by simp[results,results84,go_sem,f,g,h,i,j]) rfl ⟨by rw[yx F],bX u (by omega) _ _ _ _ _⟩
  ·have H:Hid (kG a b c d=φ):=yz (by rw[<-Bool.not_eq_true,lW];exact fun e=>C (tX.2 e));have K:(fT a b c d==0)=φ:=by simpa using C
   clear C;obtain⟨p,q,r,s⟩:=D;go_wp2_with fail;refine(Hd a b c d _ G (yx H)).mono ?_;rintro e M ⟨rfl,n⟩;have m:=o.lt;replace o:=o.kept n;replace t:=t.kept m n;replace u:=ak u n;clear n p q r s m;obtain⟨f,g,h,i,j⟩:=o;obtain⟨fr0,y,z,A,B⟩:=t;go_wp2;exact ϋ (v:=κ #[J Z (ofP a b c d a),J Z (ofP a b c d b),J Z (ofP a b c d c),J Z (ofP a b c d d),J Z (ofC a b c d)]) (by simp[results,results84,go_sem,f,g,h,i,j]) rfl ⟨rfl,bX u (by omega) _ _ _ _ _⟩
section
variable {s1 s2 s3 s4 t1 t2 t3 t4:Int}
theorem tW(h:coR s1 s2 s3 s4 t1 t2 t3 t4=φ):Value.agg #[J Z (coP s1 s2 s3 s4 t1 t2 t3 t4 (coA s1 s2 s3 s4 t1 t2 t3 t4)),J Z (coP s1 s2 s3 s4 t1 t2 t3 t4 (coB s1 s2 s3 s4 t1 t2 t3 t4)),J Z (coP s1 s2 s3 s4 t1 t2 t3 t4 (coC s1 s2 s3 s4 t1 t2 t3 t4)),J Z (coP s1 s2 s3 s4 t1 t2 t3 t4 (coD s1 s2 s3 s4 t1 t2 t3 t4)),J Z (coK s1 s2 s3 s4 t1 t2 t3 t4)]=Value.agg #[J Z 0,J Z 0,J Z 0,J Z 0,J Z 1]:=by
 unfold coP coK;rw[h];rfl
theorem IN(h:coR s1 s2 s3 s4 t1 t2 t3 t4=θ):Value.agg #[J Z (coP s1 s2 s3 s4 t1 t2 t3 t4 (coA s1 s2 s3 s4 t1 t2 t3 t4)),J Z (coP s1 s2 s3 s4 t1 t2 t3 t4 (coB s1 s2 s3 s4 t1 t2 t3 t4)),J Z (coP s1 s2 s3 s4 t1 t2 t3 t4 (coC s1 s2 s3 s4 t1 t2 t3 t4)),J Z (coP s1 s2 s3 s4 t1 t2 t3 t4 (coD s1 s2 s3 s4 t1 t2 t3 t4)),J Z (coK s1 s2 s3 s4 t1 t2 t3 t4)]=Value.agg #[J Z (ofP (coA s1 s2 s3 s4 t1 t2 t3 t4) (coB s1 s2 s3 s4 t1 t2 t3 t4) (coC s1 s2 s3 s4 t1 t2 t3 t4) (coD s1 s2 s3 s4 t1 t2 t3 t4) (coA s1 s2 s3 s4 t1 t2 t3 t4)),J Z (ofP (coA s1 s2 s3 s4 t1 t2 t3 t4) (coB s1 s2 s3 s4 t1 t2 t3 t4) (coC s1 s2 s3 s4 t1 t2 t3 t4) (coD s1 s2 s3 s4 t1 t2 t3 t4) (coB s1 s2 s3 s4 t1 t2 t3 t4)),J Z (ofP (coA s1 s2 s3 s4 t1 t2 t3 t4) (coB s1 s2 s3 s4 t1 t2 t3 t4) (coC s1 s2 s3 s4 t1 t2 t3 t4) (coD s1 s2 s3 s4 t1 t2 t3 t4) (coC s1 s2 s3 s4 t1 t2 t3 t4)),J Z (ofP (coA s1 s2 s3 s4 t1 t2 t3 t4) (coB s1 s2 s3 s4 t1 t2 t3 t4) (coC s1 s2 s3 s4 t1 t2 t3 t4) (coD s1 s2 s3 s4 t1 t2 t3 t4) (coD s1 s2 s3 s4 t1 t2 t3 t4)),J Z (ofC (coA s1 s2 s3 s4 t1 t2 t3 t4) (coB s1 s2 s3 s4 t1 t2 t3 t4) (coC s1 s2 s3 s4 t1 t2 t3 t4) (coD s1 s2 s3 s4 t1 t2 t3 t4))]:=by
 unfold coP coK;rw[h];rfl
theorem Gv(s1 s2 s3 s4 t1 t2 t3 t4:Int)(w:ω)(a:inT 5 s1 s2 s3 s4=θ)(b:inT 5 t1 t2 t3 t4=θ):
  χ prog 187 #[κ #[J Z s1,J Z s2,J Z s3,J Z s4],κ #[J Z t1,J Z t2,J Z t3,J Z t4]] w fun e h=>e=ρ (κ #[J Z (coA s1 s2 s3 s4 t1 t2 t3 t4),J Z (coB s1 s2 s3 s4 t1 t2 t3 t4),J Z (coC s1 s2 s3 s4 t1 t2 t3 t4),J Z (coD s1 s2 s3 s4 t1 t2 t3 t4)])/\δ w.1.size w h:=by
 have c:=yz (Mj a b).1;have d:=yz (Mk a b).1;have f:=yz (Ml a b).1;have g:=yz (Mm a b).1;clear a b;go_enter func187,ntmps187;go_wp2;rw[yx c,yx d,yx f,yx g];exact ϋ (v:=κ #[J Z (coA s1 s2 s3 s4 t1 t2 t3 t4),J Z (coB s1 s2 s3 s4 t1 t2 t3 t4),J Z (coC s1 s2 s3 s4 t1 t2 t3 t4),J Z (coD s1 s2 s3 s4 t1 t2 t3 t4)]) (by simp[results,results187,go_sem]) rfl ⟨rfl,bT _ _ _ _⟩
theorem nF(s1 s2 s3 s4 t1 t2 t3 t4:Int)(w:ω)(a:inT 5 s1 s2 s3 s4=θ)(b:inT 5 t1 t2 t3 t4=θ):
  χ prog 129 #[κ #[J Z s1,J Z s2,J Z s3,J Z s4],κ #[J Z t1,J Z t2,J Z t3,J Z t4]] w fun e x=>e=ρ (κ #[J Z (ofP (coA s1 s2 s3 s4 t1 t2 t3 t4) (coB s1 s2 s3 s4 t1 t2 t3 t4) (coC s1 s2 s3 s4 t1 t2 t3 t4) (coD s1 s2 s3 s4 t1 t2 t3 t4) (coA s1 s2 s3 s4 t1 t2 t3 t4)),J Z (ofP (coA s1 s2 s3 s4 t1 t2 t3 t4) (coB s1 s2 s3 s4 t1 t2 t3 t4) (coC s1 s2 s3 s4 t1 t2 t3 t4) (coD s1 s2 s3 s4 t1 t2 t3 t4) (coB s1 s2 s3 s4 t1 t2 t3 t4)),J Z (ofP (coA s1 s2 s3 s4 t1 t2 t3 t4) (coB s1 s2 s3 s4 t1 t2 t3 t4) (coC s1 s2 s3 s4 t1 t2 t3 t4) (coD s1 s2 s3 s4 t1 t2 t3 t4) (coC s1 s2 s3 s4 t1 t2 t3 t4)),J Z (ofP (coA s1 s2 s3 s4 t1 t2 t3 t4) (coB s1 s2 s3 s4 t1 t2 t3 t4) (coC s1 s2 s3 s4 t1 t2 t3 t4) (coD s1 s2 s3 s4 t1 t2 t3 t4) (coD s1 s2 s3 s4 t1 t2 t3 t4)),J Z (ofC (coA s1 s2 s3 s4 t1 t2 t3 t4) (coB s1 s2 s3 s4 t1 t2 t3 t4) (coC s1 s2 s3 s4 t1 t2 t3 t4) (coD s1 s2 s3 s4 t1 t2 t3 t4))])/\δ w.1.size w x:=by
 have k:=yz (Mj a b).1;have l:=yz (Mk a b).1;have m:=yz (Ml a b).1;have n:=yz (Mm a b).1;clear a b;go_enter func129,ntmps129;go_wp2_with fail;rw[yx k,yx l,yx m,yx n];refine(nP _ _ _ _ _).mono ?_;rintro e j ⟨rfl,c⟩;have u:eK j (w.1.size+1+1) 0 0 0 0 0:=(by simpa using eO ((w.alloc _).alloc _) 0 0 0 0 0 _:eK _ (w.1.size+1+1) 0 0 0 0 0).kept c;have o:kI j (w.1.size+1+1):=(by simpa using jW ((w.alloc _).alloc _) 0 0 0 0 0 _:kI _ (w.1.size+1+1)).kept (by simp) c;have t:δ w.1.size w j:=ak (bT _ _ _ _) c;clear c k l m n;obtain⟨d,f,g,h,i⟩:=u;obtain⟨fr0,p,q,r,s⟩:=o;go_wp2;exact ϋ (v:=κ #[J Z (ofP (coA s1 s2 s3 s4 t1 t2 t3 t4) (coB s1 s2 s3 s4 t1 t2 t3 t4) (coC s1 s2 s3 s4 t1 t2 t3 t4) (coD s1 s2 s3 s4 t1 t2 t3 t4) (coA s1 s2 s3 s4 t1 t2 t3 t4)),J Z (ofP (coA s1 s2 s3 s4 t1 t2 t3 t4) (coB s1 s2 s3 s4 t1 t2 t3 t4) (coC s1 s2 s3 s4 t1 t2 t3 t4) (coD s1 s2 s3 s4 t1 t2 t3 t4) (coB s1 s2 s3 s4 t1 t2 t3 t4)),J Z (ofP (coA s1 s2 s3 s4 t1 t2 t3 t4) (coB s1 s2 s3 s4 t1 t2 t3 t4) (coC s1 s2 s3 s4 t1 t2 t3 t4) (coD s1 s2 s3 s4 t1 t2 t3 t4) (coC s1 s2 s3 s4 t1 t2 t3 t4)),J Z (ofP (coA s1 s2 s3 s4 t1 t2 t3 t4) (coB s1 s2 s3 s4 t1 t2 t3 t4) (coC s1 s2 s3 s4 t1 t2 t3 t4) (coD s1 s2 s3 s4 t1 t2 t3 t4) (coD s1 s2 s3 s4 t1 t2 t3 t4)),J Z (ofC (coA s1 s2 s3 s4 t1 t2 t3 t4) (coB s1 s2 s3 s4 t1 t2 t3 t4) (coC s1 s2 s3 s4 t1 t2 t3 t4) (coD s1 s2 s3 s4 t1 t2 t3 t4))]) (by simp[results,results129,go_sem,d,f,g,h,i]) rfl ⟨rfl,bX t (by omega) _ _ _ _ _⟩
theorem Br(f g h i a b c d:Int)(w:ω):
  χ prog 168 #[κ #[J Z f,J Z g,J Z h,J Z i],κ #[J Z a,J Z b,J Z c,J Z d]] w fun e Q=>e=ρ (κ #[J Z (coP f g h i a b c d (coA f g h i a b c d)),J Z (coP f g h i a b c d (coB f g h i a b c d)),J Z (coP f g h i a b c d (coC f g h i a b c d)),J Z (coP f g h i a b c d (coD f g h i a b c d)),J Z (coK f g h i a b c d)])/\δ w.1.size w Q:=by
 go_enter func168,ntmps168;go_wp2_with fail;refine(dg f g h i _).mono ?_;rintro e L ⟨rfl,j⟩;have D:aR L w.1.size f g h i:=(((be w f g h i _).alloc _).alloc _).kept (by simp;omega) j;have E:aR L (w.1.size+1) a b c d:=((by simpa using be (w.alloc _) a b c d _:aR _ (w.1.size+1) a b c d).alloc _).kept (by simp) j;have l:eK L (w.1.size+1+1) 0 0 0 0 0:=(by simpa using eO ((w.alloc _).alloc _) 0 0 0 0 0 _:eK _ (w.1.size+1+1) 0 0 0 0 0).kept j;have s:kI L (w.1.size+1+1):=(by simpa using jW ((w.alloc _).alloc _) 0 0 0 0 0 _:kI _ (w.1.size+1+1)).kept (by simp) j;have r:δ w.1.size w L:=ak (bT _ _ _ _) j;clear j;cases M:aG f g h i
 ·have F:=yz (tW (s1:=f) (s2:=g) (s3:=h) (s4:=i) (t1:=a) (t2:=b) (t3:=c) (t4:=d) (by rw[coR,M];rfl));obtain⟨m,n,o,p,q⟩:=l;obtain⟨fr0,G,H,I,K⟩:=s;go_wp2;exact ϋ (v:=κ #[J Z 0,J Z 0,J Z 0,J Z 0,J Z 1]) (by simp[results,results168,go_sem,m,n,o,p,q]) rfl ⟨by rw[yx F],bX r (by omega) _ _ _ _ _⟩
 ·have O:=D;have P:=E;obtain⟨t,u,x,y⟩:=O;obtain⟨z,A,B,C⟩:=P;go_wp2_with fail;clear t u x y z A B C;refine(dg a b c d _).mono ?_;rintro e R ⟨rfl,j⟩;have k:=l.lt;replace D:=D.kept D.lt j;replace E:=E.kept E.lt j;replace l:=l.kept j;replace s:=s.kept k j;replace r:=ak r j;clear j k;cases N:aG a b c d
  ·have F:=yz (tW (s1:=f) (s2:=g) (s3:=h) (s4:=i) (t1:=a) (t2:=b) (t3:=c) (t4:=d) (by rw[coR,M,N];rfl));obtain⟨m,n,o,p,q⟩:=l;obtain⟨fr0,G,H,I,K⟩:=s;go_wp2;exact ϋ (v:=κ #[J Z 0,J Z 0,J Z 0,J Z 0,J Z 1]) (by simp[results,results168,go_sem,m,n,o,p,q]) rfl ⟨by rw[yx F],bX r (by omega) _ _ _ _ _⟩
  ·have O:=D;have P:=E;obtain⟨t,u,x,y⟩:=O;obtain⟨z,A,B,C⟩:=P;go_wp2_with fail;clear t u x y z A B C;have F:=yz (IN (s1:=f) (s2:=g) (s3:=h) (s4:=i) (t1:=a) (t2:=b) (t3:=c) (t4:=d) (by rw[coR,M,N];rfl));refine(Gv f g h i a b c d _ (dt.1 M).1 (dt.1 N).1).mono ?_;rintro e S ⟨rfl,j⟩;have k:=l.lt;replace l:=(l.kept j).alloc (ξ #[J Z (coA f g h i a b c d),J Z (coB f g h i a b c d),J Z (coC f g h i a b c d),J Z (coD f g h i a b c d)] 24);replace s:=(s.kept k j).kept (ϐ k j.size) (an _ (ξ #[J Z (coA f g h i a b c d),J Z (coB f g h i a b c d),J Z (coC f g h i a b c d),J Z (coD f g h i a b c d)] 24));replace r:=(ak r j).alloc (ak r j).size (ξ #[J Z (coA f g h i a b c d),J Z (coB f g h i a b c d),J Z (coC f g h i a b c d),J Z (coD f g h i a b c d)] 24);clear j k D E;go_wp2_with fail;refine(Fc _ _ _ _ _).mono ?_;rintro e T ⟨rfl,j⟩;have k:=l.lt;replace l:=l.kept j;replace s:=s.kept k j;replace r:=ak r j;clear j k;obtain⟨m,n,o,p,q⟩:=l;obtain⟨fr0,G,H,I,K⟩:=s;go_wp2;exact ϋ (v:=κ #[J Z (ofP (coA f g h i a b c d) (coB f g h i a b c d) (coC f g h i a b c d) (coD f g h i a b c d) (coA f g h i a b c d)),J Z (ofP (coA f g h i a b c d) (coB f g h i a b c d) (coC f g h i a b c d) (coD f g h i a b c d) (coB f g h i a b c d)),J Z (ofP (coA f g h i a b c d) (coB f g h i a b c d) (coC f g h i a b c d) (coD f g h i a b c d) (coC f g h i a b c d)),J Z (ofP (coA f g h i a b c d) (coB f g h i a b c d) (coC f g h i a b c d) (coD f g h i a b c d) (coD f g h i a b c d)),J Z (ofC (coA f g h i a b c d) (coB f g h i a b c d) (coC f g h i a b c d) (coD f g h i a b c d))]) (by simp[results,results168,go_sem,m,n,o,p,q]) rfl ⟨by rw[yx F],bX r (by omega) _ _ _ _ _⟩
theorem tL(d f g h a b t3 c:Int)(w:ω):
  χ prog 95 #[κ #[J Z d,J Z f,J Z g,J Z h],κ #[J Z a,J Z b,J Z t3,J Z c]] w fun e P=>e=ρ (κ #[J Z (coP d f g h a b t3 c (coA d f g h a b t3 c)),J Z (coP d f g h a b t3 c (coB d f g h a b t3 c)),J Z (coP d f g h a b t3 c (coC d f g h a b t3 c)),J Z (coP d f g h a b t3 c (coD d f g h a b t3 c)),J Z (coK d f g h a b t3 c)])/\δ w.1.size w P:=by
 go_enter func95,ntmps95;go_wp2_with fail;refine(bM d f g h _).mono ?_;rintro e K ⟨rfl,i⟩;have C:aR K w.1.size d f g h:=(((be w d f g h _).alloc _).alloc _).kept (by simp;omega) i;have D:aR K (w.1.size+1) a b t3 c:=((by simpa using be (w.alloc _) a b t3 c _:aR _ (w.1.size+1) a b t3 c).alloc _).kept (by simp) i;have p:eK K (w.1.size+1+1) 0 0 0 0 0:=(by simpa using eO ((w.alloc _).alloc _) 0 0 0 0 0 _:eK _ (w.1.size+1+1) 0 0 0 0 0).kept i;have A:kI K (w.1.size+1+1):=(by simpa using jW ((w.alloc _).alloc _) 0 0 0 0 0 _:kI _ (w.1.size+1+1)).kept (by simp) i;have B:δ w.1.size w K:=ak (bT _ _ _ _) i;clear i;cases L:aG d f g h
 ·have E:=yz (tW (s1:=d) (s2:=f) (s3:=g) (s4:=h) (t1:=a) (t2:=b) (t3:=t3) (t4:=c) (by rw[coR,L];rfl));obtain⟨j,k,l,m,n⟩:=p;obtain⟨fr0,F,G,H,I⟩:=A;go_wp2;exact ϋ (v:=κ #[J Z 0,J Z 0,J Z 0,J Z 0,J Z 1]) (by simp[results,results95,go_sem,j,k,l,m,n]) rfl ⟨by rw[yx E],bX B (by omega) _ _ _ _ _⟩
 ·have N:=C;have O:=D;obtain⟨q,r,s,t⟩:=N;obtain⟨u,x,y,z⟩:=O;go_wp2_with fail;clear q r s t u x y z;refine(bM a b t3 c _).mono ?_;rintro e Q ⟨rfl,i⟩;have o:=p.lt;replace C:=C.kept C.lt i;replace D:=D.kept D.lt i;replace p:=p.kept i;replace A:=A.kept o i;replace B:=ak B i;clear i o;cases M:aG a b t3 c
  ·have E:=yz (tW (s1:=d) (s2:=f) (s3:=g) (s4:=h) (t1:=a) (t2:=b) (t3:=t3) (t4:=c) (by rw[coR,L,M];rfl));obtain⟨j,k,l,m,n⟩:=p;obtain⟨fr0,F,G,H,I⟩:=A;go_wp2;exact ϋ (v:=κ #[J Z 0,J Z 0,J Z 0,J Z 0,J Z 1]) (by simp[results,results95,go_sem,j,k,l,m,n]) rfl ⟨by rw[yx E],bX B (by omega) _ _ _ _ _⟩
  ·have N:=C;have O:=D;obtain⟨q,r,s,t⟩:=N;obtain⟨u,x,y,z⟩:=O;go_wp2_with fail;clear q r s t u x y z;have E:=yz (IN (s1:=d) (s2:=f) (s3:=g) (s4:=h) (t1:=a) (t2:=b) (t3:=t3) (t4:=c) (by rw[coR,L,M];rfl));refine(nF d f g h a b t3 c _ (dt.1 L).1 (dt.1 M).1).mono ?_;rintro e R ⟨rfl,i⟩;have o:=p.lt;replace p:=p.kept i;replace A:=A.kept o i;replace B:=ak B i;clear i o C D;obtain⟨j,k,l,m,n⟩:=p;obtain⟨fr0,F,G,H,I⟩:=A;go_wp2;exact ϋ (v:=κ #[J Z (ofP (coA d f g h a b t3 c) (coB d f g h a b t3 c) (coC d f g h a b t3 c) (coD d f g h a b t3 c) (coA d f g h a b t3 c)),J Z (ofP (coA d f g h a b t3 c) (coB d f g h a b t3 c) (coC d f g h a b t3 c) (coD d f g h a b t3 c) (coB d f g h a b t3 c)),J Z (ofP (coA d f g h a b t3 c) (coB d f g h a b t3 c) (coC d f g h a b t3 c) (coD d f g h a b t3 c) (coC d f g h a b t3 c)),J Z (ofP (coA d f g h a b t3 c) (coB d f g h a b t3 c) (coC d f g h a b t3 c) (coD d f g h a b t3 c) (coD d f g h a b t3 c)),J Z (ofC (coA d f g h a b t3 c) (coB d f g h a b t3 c) (coC d f g h a b t3 c) (coD d f g h a b t3 c))]) (by simp[results,results95,go_sem,j,k,l,m,n]) rfl ⟨by rw[yx E],bX B (by omega) _ _ _ _ _⟩
end
section
def fD(w:ω)(b:Nat)(v:μ)(lim mode A B C D coast fr:Int):Prop:=w.cell? ⟨b,0,ν⟩=ς v/\w.cell? ⟨b,1,ν⟩=ς (J Z lim)/\w.cell? ⟨b,2,ν⟩=ς (J Z mode)/\w.cell? ⟨b,3,ν⟩=ς (J Z A)/\w.cell? ⟨b,4,ν⟩=ς (J Z B)/\w.cell? ⟨b,5,ν⟩=ς (J Z C)/\w.cell? ⟨b,6,ν⟩=ς (J Z D)/\w.cell? ⟨b,7,ν⟩=ς (J Z coast)/\w.cell? ⟨b,8,ν⟩=ς (J Z fr)
variable {b:Nat} {v:μ} {w w':ω}
theorem oQ{a:η}(h:w.cell? a=ς v)(b:δ w.1.size w w'):w'.cell? a=ς v:=(b.cell (World.block_lt_of_cell? w a h)).trans h
theorem fD.kept{lim d A B C D a e:Int}(h:fD w b v lim d A B C D a e)(c:δ w.1.size w w'):fD w' b v lim d A B C D a e:=by
 obtain⟨f,g,i,j,k,l,m,n,o⟩:=h;exact⟨oQ f c,oQ g c,oQ i c,oQ j c,oQ k c,oQ l c,oQ m c,oQ n c,oQ o c⟩
theorem eH(w:ω)(v:μ)(lim b A B C D a c:Int)(t:TypeId):fD (w.alloc (ξ #[v,J Z lim,J Z b,J Z A,J Z B,J Z C,J Z D,J Z a,J Z c] t)) w.1.size v lim b A B C D a c:=by
 refine⟨?_,?_,?_,?_,?_,?_,?_,?_,?_⟩<;>simp
theorem fD.lt{lim c A B C D a d:Int}(h:fD w b v lim c A B C D a d):b<w.1.size:=World.block_lt_of_cell? w _ h.1
theorem gQ(L:List St)(lim d A B C D b g:Int)(a:Option η)(c:Nat)(p:η)(w:ω)(S:L.length<=1048576)(j:L.length<=c)(o:c<=9223372036854775807)(R:aO w a L L.length)(Q:bQ p w):
  χ prog 47 #[κ #[σ a L.length c,J Z lim,J Z d,J Z A,J Z B,J Z C,J Z D,J Z b,J Z g]] w fun e w'=>e=ρ (β (aM ⟨L,lim,d,A,B,C,D,b,g⟩))/\δ w.1.size w w':=by
 have q:=an w (ξ #[σ a L.length c,J Z lim,J Z d,J Z A,J Z B,J Z C,J Z D,J Z b,J Z g] 38);have z:=eH w (σ a L.length c) lim d A B C D b g 38;have P:=yz (iT L a c p _ S j o (R.kept q) (Q.kept q));have m:=yz q;have n:=yz z;clear q z R Q S j o;go_enter func47,ntmps47;go_wp2_with fail;refine(yx P).mono ?_;rintro e w1 ⟨rfl,h⟩;have u:=ap n h;have i:=aB m h;clear h P n m;obtain⟨E,F,G,H,I,K,M,N,O⟩:=yx u;cases v:bE L
 ·have f:=yz (zh (t:=⟨L,lim,d,A,B,C,D,b,g⟩) v);go_wp2;go_ret;exact⟨by rw[yx f];rfl,yx i⟩
 by_cases q1:lim<1
 ·have f:=yz (sz (t:=⟨L,lim,d,A,B,C,D,b,g⟩) (nN (by show ¬1<=lim;omega)));go_wp2;go_ret;exact⟨by rw[yx f];rfl,yx i⟩
 by_cases q2:(5:Int)<lim
 ·have f:=yz (sz (t:=⟨L,lim,d,A,B,C,D,b,g⟩) (yY (by show ¬lim<=5;omega)));go_wp2;go_ret;exact⟨by rw[yx f];rfl,yx i⟩
 by_cases q3:g<0
 ·have f:=yz (oE (t:=⟨L,lim,d,A,B,C,D,b,g⟩) (nN (by show ¬0<=g;omega)));go_wp2;go_ret;exact⟨by rw[yx f];rfl,yx i⟩
 by_cases q4:(1000000:Int)<g
 ·have f:=yz (oE (t:=⟨L,lim,d,A,B,C,D,b,g⟩) (yY (by show ¬g<=1000000;omega)));go_wp2;go_ret;exact⟨by rw[yx f];rfl,yx i⟩
 have r:=yz (wV (t:=⟨L,lim,d,A,B,C,D,b,g⟩) v (qV (by show 1<=lim;omega) (by show lim<=5;omega)) (qV (by show 0<=g;omega) (by show g<=1000000;omega)));clear v;by_cases U:d=0
 ·have f:Hid (aM ⟨L,lim,d,A,B,C,D,b,g⟩=(eqT A B C D 0 0 0 0&&decide (b=0))):=yz (by rw[yx r,JE U]);have T:=fun W=>gP A B C D 0 0 0 0 W;cases k:eqT A B C D 0 0 0 0
  ·rw[k]at f T;go_wp2;go_ret;exact⟨by rw[yx f];rfl,yx i⟩
  ·rw[k]at f T;go_wp2;go_ret;exact⟨by rw[yx f];rfl,yx i⟩
 by_cases x:d=1
 ·have f:Hid (aM ⟨L,lim,d,A,B,C,D,b,g⟩=(aG A B C D&&decide (b=0))):=yz (by rw[yx r,nH x]);subst x;go_wp2_with fail;refine(dg A B C D _).mono ?_;rintro e w2 ⟨rfl,h⟩;have l:=aB i h;obtain⟨X,Y,d2,d3,d4,d5,d6,d7,d8⟩:=(yx u).kept h;clear h E F G H I K M N O;cases k:aG A B C D
  ·rw[k]at f;go_wp2;go_ret;exact⟨by rw[yx f];rfl,yx l⟩
  ·rw[k]at f;go_wp2;go_ret;exact⟨by rw[yx f];rfl,yx l⟩
 by_cases y:d=2
 ·have f:Hid (aM ⟨L,lim,d,A,B,C,D,b,g⟩=(aG A B C D&&bG 1 lim b)):=yz (by rw[yx r,pt y]);subst y;go_wp2_with fail;refine(dg A B C D _).mono ?_;rintro e w2 ⟨rfl,h⟩;have l:=aB i h;obtain⟨X,Y,d2,d3,d4,d5,d6,d7,d8⟩:=(yx u).kept h;clear h E F G H I K M N O;cases k:aG A B C D
  ·rw[k]at f;go_wp2;go_ret;exact⟨by rw[yx f];rfl,yx l⟩
  ·rw[k]at f;by_cases V:1<=b
   ·have s:Hid (bG 1 lim b=decide (b<=lim)):=yz (by unfold bG;rw[decide_eq_true V];rfl);go_wp2;go_ret;exact⟨by rw[yx f,yx s];rfl,yx l⟩
   ·have s:Hid (bG 1 lim b=φ):=yz (nN V);go_wp2;go_ret;exact⟨by rw[yx f,yx s];rfl,yx l⟩
 ·have f:Hid (aM ⟨L,lim,d,A,B,C,D,b,g⟩=φ):=yz (by rw[yx r,vQ U x y]);go_wp2;go_ret;exact⟨by rw[yx f];rfl,yx i⟩
end
section
def AX(w:ω)(a:Option η)(n:Nat)(row:Option Nat):Prop:=(n=0/\row=ν)\/∃g f,a=ς ⟨g,0,ν⟩/\row=ς g/\gF w 130 g (n*4) f
def Mkd(w:ω)(a:Option η)(n:Nat)(row:Option Nat):Prop:=(n=0/\row=ν)\/∃g,a=ς ⟨g,0,ν⟩/\row=ς g/\gF w 130 g (n*4) (fun j=>1+(j:Int))
variable {a:Option η} {v:μ} {w w':ω}
theorem AX.kept{n:Nat}{row:Option Nat}(h:AX w a n row)(e:δ w.1.size w w'):AX w' a n row:=by
 rcases h with h | ⟨g,f,b,c,d⟩
 ·exact .inl h
 ·exact .inr ⟨g,f,b,c,d.kept e⟩
theorem Mkd.kept{n:Nat}{row:Option Nat}(h:Mkd w a n row)(e:δ w.1.size w w'):Mkd w' a n row:=by
 rcases h with h | ⟨g,b,c,d⟩
 ·exact .inl h
 ·exact .inr ⟨g,b,c,d.kept e⟩
theorem AX.lt{n:Nat}{b:Option Nat}(h:AX w a n b){g:Nat}(e:b=ς g):g<w.1.size:=by
 rcases h with ⟨_,h⟩ | ⟨i,f,j,c,d⟩
 ·rw[h]at e;cases e
 ·rw[c]at e;obtain rfl:=Option.some.inj e;exact d.lt
theorem dm{B:Nat}{c d:ω}{b:Option Nat}(h:δ B w c)(a:c.grownBy d b)(i:B<=c.1.size)(f:∀g,b=ς g->B<=g):δ B w d:=
 h.trans ⟨a.os,a.tape,a.output,a.size,fun k j=>a.block k (by omega) (fun e=>by have:=f k e.symm;omega)⟩
def bC(L:List St):List μ:=L.flatMap stC
theorem gh(L:List St):(bC L).length=L.length*4:=by
 unfold bC
 induction L with
 | nil=>rfl
 | cons x l ih=>simp[List.flatMap_cons,stC]at *;omega
theorem rF(L:List St):∀(i:Nat),i<L.length->(bC L)[i*4]? = ς (J Z (stA L i).1)/\(bC L)[i*4+1]? = ς (J Z (stA L i).2.1)/\(bC L)[i*4+2]? = ς (J Z (stA L i).2.2.1)/\(bC L)[i*4+3]? = ς (J Z (stA L i).2.2.2):=by
 induction L with
 | nil=>intro i a;simp at a
 | cons x l ih=>
  intro i a
  match i with
  | 0=>exact⟨rfl,rfl,rfl,rfl⟩
  | i+1=>
   have h:=ih i (by simpa using a)
   have e:∀r,(bC (x :: l))[(i+1)*4+r]? = (bC l)[i*4+r]?:=fun r=>by
    rw[show (i+1)*4+r=(i*4+r)+4 by omega];rfl
   have b:stA (x :: l) (i+1)=stA l i:=rfl;rw[b];exact⟨by have:=e 0;simp only[Nat.add_zero]at this;rw[this];exact h.1,by rw[e 1];exact h.2.1,by rw[e 2];exact h.2.2.1,by rw[e 3];exact h.2.2.2⟩
theorem rU{B:Nat}{L:List St}(h:w.ownsRow B 130 4 v L.length (bC L)):∃a b,v=σ a L.length b/\L.length<=b/\b<=maxLen/\aO w a L L.length:=by
 rcases h.2 with ⟨r,l⟩ | ⟨g,b,e,x,y,m,k,f,s,c⟩
 ·exact⟨ν,0,by rw[r,l],by omega,ϑ _,.inl l⟩
 ·refine⟨_,b,x,k,f,.inr ⟨g,0,rfl,(Array.getElem?_eq_some_iff.1 m).1,fun i t=>?_⟩⟩
  have d:∀j,j<L.length*4->w.cell? ⟨g,j,ν⟩=(bC L)[j]?:=fun j u=>by
   rw[cell_of_row w g j e _ _ m,<-c,List.getElem?_take,if_pos u];simp
  obtain⟨n,o,p,q⟩:=rF L i t;rw[Nat.zero_add];exact⟨by rw[d _ (by omega)];exact n,by rw[d _ (by omega)];exact o,by rw[d _ (by omega)];exact p,by rw[d _ (by omega)];exact q⟩
theorem uZ(L:List St)(j:Nat)(e:j<L.length*4):∃z,(bC L)[j]? = ς (J Z z):=by
 obtain⟨a,b,c,d⟩:=rF L (j / 4) (by omega);have h:j=j / 4*4\/j=j / 4*4+1\/j=j / 4*4+2\/j=j / 4*4+3:=by omega
 rcases h with h | h | h | h
 ·rw[h];exact⟨_,a⟩
 ·rw[h];exact⟨_,b⟩
 ·rw[h];exact⟨_,c⟩
 ·rw[h];exact⟨_,d⟩
theorem LM{B:Nat}{L:List St}{i:Nat}(h:w.ownsRow B 130 4 v L.length (bC L))(t:v=σ a L.length i):∃f,AX w a L.length f/\∀g,f=ς g->B<=g:=by
 rcases h.2 with ⟨x,n⟩ | ⟨g,l,c,d,o,r,s,p,q,b⟩
 ·exact⟨ν,.inl ⟨n,rfl⟩,fun g e=>by cases e⟩
 ·rw[t]at d;injection d with e1 e2 e3;refine⟨ς g,.inr ⟨g,fun j=>if h:j<L.length*4 then Classical.choose (uZ L j h) else 0,e1,rfl,c,r,fun j k=>?_⟩,fun u e=>by obtain rfl:=Option.some.inj e;exact o⟩
  have m:c[j]? = (bC L)[j]?:=by
   rw[<-b,List.getElem?_take,if_pos k];simp
  rw[m];simp only[k,dif_pos];exact Classical.choose_spec (uZ L j k)
end
section
def iC(w:ω)(b:Nat):Prop:=∀i,w.frozen? ⟨b,i,ν⟩=φ
variable {b:Nat} {w:ω}
theorem iC.kept{a:ω}(h:iC w b)(d:b<w.1.size)(c:δ w.1.size w a):iC a b:=fun i=>(c.frozen (p:=⟨b,i,ν⟩) d).trans (h i)
theorem fq(w:ω)(a:Array μ)(t:TypeId):iC (w.alloc (ξ a t)) w.1.size:=fun i=>by simp
theorem iC.set(h:iC w b)(p:η)(v:μ):iC (w.setCell p v) b:=fun i=>by rw[World.frozen?_setCell];exact h i
theorem lX.far{n k:Nat}{L:List St}(h:lX w b n L k){a:Nat}(d:b≠a)(o:Nat)(x:μ):lX (w.setCell ⟨a,o,ν⟩ x) b n L k:=by
 obtain⟨c,e,r⟩:=h;exact⟨c,by rw[Below.heap_setCell w ⟨a,o,ν⟩ x b d];exact e,r⟩
theorem fD.far{v:μ}{lim c A B C D a f:Int}(h:fD w b v lim c A B C D a f){e:Nat}(d:b≠e)(o:Nat)(x:μ):fD (w.setCell ⟨e,o,ν⟩ x) b v lim c A B C D a f:=by
 obtain⟨g,i,j,k,l,m,n,p,q⟩:=h;refine⟨?_,?_,?_,?_,?_,?_,?_,?_,?_⟩<;>(rw[World.cell?_setCell_far _ _ _ _ (Ne.symm d)];assumption)
theorem fu{u:μ}{lim0 mode0 A0 B0 C0 D0 coast0 fr0:Int}(h:fD w b u lim0 mode0 A0 B0 C0 D0 coast0 fr0)(v:μ)(lim c A B C D a d:Int):fD (((((((((w.setCell ⟨b,0,ν⟩ v).setCell ⟨b,1,ν⟩ (J Z lim)).setCell ⟨b,2,ν⟩ (J Z c)).setCell ⟨b,3,ν⟩ (J Z A)).setCell ⟨b,4,ν⟩ (J Z B)).setCell ⟨b,5,ν⟩ (J Z C)).setCell ⟨b,6,ν⟩ (J Z D)).setCell ⟨b,7,ν⟩ (J Z a)).setCell ⟨b,8,ν⟩ (J Z d)) b v lim c A B C D a d:=by
 obtain⟨e,f,g,i,j,k,l,m,n⟩:=h;refine⟨?_,?_,?_,?_,?_,?_,?_,?_,?_⟩<;>simp[go_sem,e,f,g,i,j,k,l,m,n]
theorem aF{B:Nat}{a:ω}(h:δ B w a){b:Nat}(c:B<=b)(o:Nat)(v:μ):δ B w (a.setCell ⟨b,o,ν⟩ v):=h.setCell c v
end
section
def TkO(w:ω)(b:Nat)(v:μ)(lim mode A B C D coast fr code:Int):Prop:=fD w b v lim mode A B C D coast fr/\w.cell? ⟨b,9,ν⟩=ς (J Z code)
variable {code:Int} {b:Nat} {v:μ} {w w':ω}
theorem TkO.kept{lim c A B C D a d:Int}(h:TkO w b v lim c A B C D a d code)(e:δ w.1.size w w'):TkO w' b v lim c A B C D a d code:=⟨h.1.kept e,oQ h.2 e⟩
theorem rh(w:ω)(v:μ)(lim c A B C D a d b:Int)(t:TypeId):TkO (w.alloc (ξ #[v,J Z lim,J Z c,J Z A,J Z B,J Z C,J Z D,J Z a,J Z d,J Z b] t)) w.1.size v lim c A B C D a d b:=by
 refine⟨⟨?_,?_,?_,?_,?_,?_,?_,?_,?_⟩,?_⟩<;>simp
theorem oP{a:η}{b:Option Nat}(h:w.cell? a=ς v)(d:w.grownBy w' b)(c:ς a.block≠b):w'.cell? a=ς v:=(World.cell?_of_block (d.block a.block (World.block_lt_of_cell? w a h) c)).trans h
theorem fD.grown{lim e A B C D c g:Int}{f:Option Nat}(h:fD w b v lim e A B C D c g)(d:w.grownBy w' f)(a:ς b≠f):fD w' b v lim e A B C D c g:=by
 obtain⟨i,j,k,l,m,n,o,p,q⟩:=h;exact⟨oP i d a,oP j d a,oP k d a,oP l d a,oP m d a,oP n d a,oP o d a,oP p d a,oP q d a⟩
theorem TkO.grown{lim c A B C D a f:Int}{e:Option Nat}(h:TkO w b v lim c A B C D a f code)(g:w.grownBy w' e)(d:ς b≠e):TkO w' b v lim c A B C D a f code:=⟨h.1.grown g d,oP h.2 g d⟩
end
section
theorem lL(w:ω)(B:Nat)(h:B<=w.1.size):(w.alloc (ξ #[] 130)).ownsRow B 130 4 (σ (ς ⟨w.1.size,0,ν⟩) 0 0) 0 []:=
 ⟨rfl,.inr ⟨_,0,#[],rfl,h,Array.getElem?_push_size,Ϗ _,ϑ _,rfl,rfl⟩⟩
theorem ia{L:List St}{u:μ}(h:u∈bC L):u.oneCell'=θ:=by
 unfold bC at h;rw[List.mem_flatMap]at h;obtain⟨s,_,a⟩:=h;simp[stC]at a;rcases a with rfl | rfl | rfl | rfl<;>rfl
variable {b:Nat} {a:Option η} {w w':ω}
theorem ti{o:Nat}{L:List St}(h:aO w (ς ⟨b,o,ν⟩) L L.length)(j:Nat)(u:μ)(c:(bC L)[j]? = ς u):w.cell? ((⟨b,o,ν⟩:η).add j)=ς u:=by
 have r:j<L.length*4:=by
  have:=(List.getElem?_eq_some_iff.1 c).1;rw[gh]at this;exact this
 have p:(⟨b,o,ν⟩:η).add j=⟨b,o+j,ν⟩:=by unfold Addr.add;split<;>simp_all
 rw[p];rcases h with h | ⟨s,t,e,_,q⟩
 ·omega
 ·simp only[Option.some.injEq,Addr.mk.injEq,and_true]at e;obtain⟨rfl,rfl⟩:=e;obtain⟨k,l,m,n⟩:=rF L (j / 4) (by omega);obtain⟨d,f,g,i⟩:=q (j / 4) (by omega);have a:j=j / 4*4\/j=j / 4*4+1\/j=j / 4*4+2\/j=j / 4*4+3:=by omega
  rcases a with a | a | a | a
  ·rw[a,k]at c;rw[a,d];exact c
  ·rw[a,l]at c;rw[a,<-Nat.add_assoc,f];exact c
  ·rw[a,m]at c;rw[a,<-Nat.add_assoc,g];exact c
  ·rw[a,n]at c;rw[a,<-Nat.add_assoc,i];exact c
def ax(w:ω)(B:Nat)(L:List St)(a:Option η)(cap:Nat):Prop:=w.ownsRow B 130 4 (σ a L.length cap) L.length (bC L)
theorem ax.stars{B:Nat}{L:List St}{b:Nat}(h:ax w B L a b):aO w a L L.length:=by
 obtain⟨d,f,e,_,_,c⟩:=rU h;injection e with e1 e2 e3;subst e1;exact c
theorem ax.row{B:Nat}{L:List St}{b:Nat}(h:ax w B L a b):∃row,AX w a L.length row/\∀g,row=ς g->B<=g:=LM h rfl
theorem ax.capMax{B:Nat}{L:List St}{b:Nat}(h:ax w B L a b):L.length<=b/\b<=maxLen:=by
 obtain⟨f,g,e,c,d,_⟩:=rU h;injection e with e1 e2 e3;subst e3;exact⟨c,d⟩
theorem ax.kept{B:Nat}{L:List St}{b:Nat}(h:ax w B L a b)(k:δ w.1.size w w'):ax w' B L a b:=by
 obtain⟨j,d⟩:=h;refine⟨j,?_⟩;rcases d with d | ⟨g,i,c,e,l,f,r⟩
 ·exact .inl d
 ·exact .inr ⟨g,i,c,e,l,by rw[k.block g (Array.getElem?_eq_some_iff.1 f).1];exact f,r⟩
theorem ax.low{B B':Nat}{L:List St}{b:Nat}(h:ax w B L a b)(j:B'<=B):ax w B' L a b:=by
 obtain⟨i,d⟩:=h;refine⟨i,?_⟩;rcases d with d | ⟨g,f,c,e,k,r⟩
 ·exact .inl d
 ·exact .inr ⟨g,f,c,e,by omega,r⟩
theorem nj{B:Nat}{L:List St}{v:μ}(h:w.ownsRow B 130 4 v L.length (bC L)):∃a b,v=σ a L.length b/\ax w B L a b:=by
 obtain⟨a,b,e,_⟩:=rU h;exact⟨a,b,e,by unfold ax;rw[<-e];exact h⟩
theorem iC.grown{a:Option Nat}(h:iC w b)(e:b<w.1.size)(f:w.grownBy w' a)(c:ς b≠a):iC w' b:=fun i=>by
 have d:=h i;unfold World.frozen? at d ⊢;rw[f.block b e c];exact d
theorem ax.far{B:Nat}{L:List St}{c:Nat}(h:ax w B L a c){b:Nat}(m:b<B)(o:Nat)(x:μ):ax (w.setCell ⟨b,o,ν⟩ x) B L a c:=by
 obtain⟨j,f⟩:=h;refine⟨j,?_⟩;rcases f with f | ⟨g,i,d,e,k,l,r⟩
 ·exact .inl f
 ·exact .inr ⟨g,i,d,e,k,by rw[Below.heap_setCell w ⟨b,o,ν⟩ x g (by show g≠b;omega)];exact l,r⟩
end
section
variable {ao:Option η} {P:Program} {w:ω}
theorem tI(w:ω)(t h e:TypeId)(i:TypeInfo)(g:P.underlying t=ς (.slice e))(f:P.info? e=ς i)(a:Option η)(n b c:Nat)(d:n<=b):
  (Builtin.append_ #[t,t] h #[σ a n b,σ ν 0 c]).run P w=.ok (σ a n b) w:=by
 cases a<;>simp[Builtin.append_,run_underlying g,sizeOf,typeInfo,f,Builtin.lenOf,Builtin.firstCells,loadCells,storeCells,d]
theorem rT{B n m:Nat}{t:TypeId}{v:μ}{j:List μ}(h:w.ownsRow B t m v n j):∃a b,v=σ a n b/\n<=b:=by
 rcases h.2 with ⟨f,d⟩ | ⟨g,k,c,e,_,_,i,_⟩
 ·exact⟨ν,0,by rw[f,d],by omega⟩
 ·exact⟨_,_,e,i⟩
theorem dF(w:ω){o:Oper}{a:Act}{K:Act->ω->Prop}{Q:Exit->Act->ω->Prop}(s x:Operand)(t:TypeId)
  (L:o.op=.call { callee:=.builtin .append,args:=#[s,x],argTypes:=#[t,t] })
  (base:Nat) (e:TypeId) (i:TypeInfo) (z:μ) (size d:Nat) (N:P.underlying t=ς (.slice e)) (H:P.info? e=ς i) (Y:i.zero=ς z)
  (p:i.size=size) (D:i.bytes=d) (F:z.cells.size=size) (E:0<size)
  (v:μ) (n:Nat) (G:List μ) (M:a.eval s=v) (f:w.ownsRow base e size v n G)
  (y:Option η) (m c:Nat) (b:List μ) (O:a.eval x=σ y m c) (I:b.length=m*size) (S:y=ν->m=0) (l:∀q,y=ς q->∀j u,b[j]? = ς u->w.cell? (q.add j)=ς u) (T:∀u∈b,u.oneCell'=θ)
  (C:n+m<=maxLen) (g:(n+m)*d<=140737488355328) (k:base<=w.1.size)
  (h:∀A r,r.ownsRow base e size A (n+m) (G ++ b)->w.grownBy r v.ownBlock->K (a.put o.dst A) r):o.wp P a w K Q:=by
 cases y with
 | some q=>exact wp_append_own w s x t L base e i z size d N H Y p D F E v n G M f q m c b O I (l q rfl) T C g k fun A r U V _=>h A r U V
 | none=>
  obtain rfl:=S rfl;obtain rfl:b=[]:=List.eq_nil_of_length_eq_zero (by rw[I];omega);obtain⟨R,B,rfl,W⟩:=rT f;have X:=tI (P:=P) w t o.type e i N H R n B c W;unfold Oper.wp execOp;simp only[L,resolve,invoke,builtin,Sem.run_bind,Sem.run_pure,Result.andThen_ok,List.map_toArray,List.map_cons,List.map_nil,M,O,X];exact h _ _ (by rw[List.append_nil];exact f) ⟨rfl,rfl,rfl,Ϗ _,fun _ _ _=>rfl⟩
theorem pU{ops:Array Oper}{rest:List Oper}(w:ω){o:Oper}{a:Act}{Q:Exit->Act->ω->Prop}(C:o.guard=ν)(s x:Operand)(t:TypeId)
  (R:o.op=.call { callee:=.builtin .append,args:=#[s,x],argTypes:=#[t,t] })
  (base:Nat) (e:TypeId) (i:TypeInfo) (z:μ) (size d:Nat) (T:P.underlying t=ς (.slice e)) (N:P.info? e=ς i) (V:i.zero=ς z)
  (l:i.size=size) (B:i.bytes=d) (E:z.cells.size=size) (D:0<size)
  (v:μ) (n:Nat) (F:List μ) (S:a.eval s=v) (p:w.ownsRow base e size v n F)
  (r:Option η) (m c:Nat) (b:List μ) (U:a.eval x=σ r m c) (O:b.length=m*size) (H:r=ν->m=0) (k:∀G,r=ς G->∀j u,b[j]? = ς u->w.cell? (G.add j)=ς u) (I:∀u∈b,u.oneCell'=θ)
  (A:n+m<=maxLen) (f:(n+m)*d<=140737488355328) (g:base<=w.1.size)
  (h:∀y q,q.ownsRow base e size y (n+m) (F ++ b)->w.grownBy q v.ownBlock->wpList P ops Q rest (a.put o.dst y) q):wpList P ops Q (o :: rest) a w:=
 wpList_plain C fun _ M=>dF w s x t R base e i z size d T N V l B E D v n F S p r m c b U O H k I A f g fun y q K L=>M _ _ (h y q K L)
theorem iV{L:List St}(h:aO w ao L L.length)(a:η)(g:ao=ς a)(j:Nat)(u:μ)(c:(bC L)[j]? = ς u):w.cell? (a.add j)=ς u:=by
 subst g;rcases h with i | ⟨b,o,e,d,f⟩
 ·have:=(List.getElem?_eq_some_iff.1 c).1;rw[gh]at this;omega
 ·cases e;exact ti (.inr ⟨b,o,rfl,d,f⟩) j u c
theorem kC{L:List St}(h:aO w ao L L.length)(c:ao=ν):L.length=0:=by
 subst c;rcases h with a | ⟨b,o,e,d,f⟩
 ·exact a
 ·cases e
end
section
def Row(w:ω)(a:Option η)(len:Nat)(B:Nat):Prop:=
 len=0\/∃bx ox,a=ς ⟨bx,ox,ν⟩/\bx<B/\∀i,i<len->∃z:Int,w.cell? ⟨bx,ox+i,ν⟩=ς (.int .u8 z)/\0<=z/\z<=255
variable {b:Nat} {w w':ω}
theorem Row.kept{a:Option η}{b B:Nat}(h:Row w a b B)(m:∀k,k<B->w'.heap[k]? = w.heap[k]?):Row w' a b B:=by
 rcases h with h | ⟨c,o,g,d,j⟩
 ·exact .inl h
 ·refine .inr ⟨c,o,g,d,fun i l=>?_⟩;obtain⟨z,n,e,f⟩:=j i l;exact⟨z,by rw[World.cell?_of_block (w:=w) (m c d)];exact n,e,f⟩
def aY(b:Nat)(w:ω):Prop:=∃(a:Option η) (len cap:Nat) (at_ mix size:Int),
 w.cell? ⟨b,0,ν⟩=ς (σ a len cap)/\w.cell? ⟨b,1,ν⟩=ς (.int .i64 at_)/\w.cell? ⟨b,2,ν⟩=ς (.int .u64 mix)/\w.cell? ⟨b,3,ν⟩=ς (.int .i64 size) /\
 w.frozen? ⟨b,0,ν⟩=φ/\w.frozen? ⟨b,1,ν⟩=φ/\w.frozen? ⟨b,2,ν⟩=φ/\w.frozen? ⟨b,3,ν⟩=φ /\
 0<=at_/\at_<=len/\len<=1048576/\0<=mix/\mix<=18446744073709551615/\0<=size/\size<=12/\Row w a len b
theorem tp(a b:Int):0<=bits .xor .u64 a b/\bits .xor .u64 a b<=18446744073709551615:=by
 have h:=wf_bits .xor .u64 a b;simpa[Lit.wf,IntKind.min,IntKind.max,IntKind.signed,IntKind.bits] using h
theorem NL(b:Nat)(a:Int)(w:ω)(h:a<=1):
  χ prog 36 #[π (ς ⟨b,0,ν⟩),.int .i64 a] w fun e c=>e=ρ (.int .i64 0)/\c=w:=by
 go_enter func36,ntmps36;go_wp2;go_ret;exact⟨rfl,rfl⟩
theorem AF(w:ω)(b o:Nat)(v a:μ):(w.setCell ⟨b,o,ν⟩ v).setCell ⟨b,o,ν⟩ a=w.setCell ⟨b,o,ν⟩ a:=by
 unfold World.setCell;congr 1
 apply Array.ext
 ·simp
 ·intro i c d;simp only[Array.getElem_modify];by_cases e:b=i
  ·simp only[e,if_true];split<;>rename_i h<;>revert h<;>split<;>intro h<;>simp_all
   obtain⟨rfl,rfl,rfl⟩:=h;simp
  ·simp[e]
def drawn(v m most:Int):Int:=(v+m / 1048576) % most
theorem MU(b:Nat)(c:Int)(w:ω)(a:Option η)(f t:Nat)(i d:Int)(h:1<c)(K:c<=9223372036854775807)
  (F:w.cell? ⟨b,0,ν⟩=ς (σ a f t)) (G:w.cell? ⟨b,1,ν⟩=ς (.int .i64 i)) (H:w.cell? ⟨b,2,ν⟩=ς (.int .u64 d))
  (I:w.frozen? ⟨b,2,ν⟩=φ) (y:f<=1048576) (A:(f:Int)<=i) (B:0<=d) (C:d<=18446744073709551615) :
  χ prog 36 #[π (ς ⟨b,0,ν⟩),.int .i64 c] w fun e s=>∃k m:Int,e=ρ (.int .i64 k)/\0<=k/\k<c/\0<=m/\m<=18446744073709551615/\s.heap=(w.setCell ⟨b,2,ν⟩ (.int .u64 m)).heap/\s.os=w.os/\s.tape=w.tape/\s.output=w.output:=by
 have D:=fun v E=>AF w b 2 v E;have p:=tp;obtain⟨q,l⟩:∃m,bits .xor .u64 d (IntKind.u64.wrap (d*8192))=m:=⟨_,rfl⟩
 obtain⟨r,n⟩:∃m,bits .xor .u64 q (q / 128)=m:=⟨_,rfl⟩
 obtain⟨g,o⟩:∃m,bits .xor .u64 r (IntKind.u64.wrap (r*131072))=m:=⟨_,rfl⟩
 have L:0<=q/\q<=18446744073709551615:=by rw[<-l];exact p _ _
 have M:0<=r/\r<=18446744073709551615:=by rw[<-n];exact p _ _
 have z:0<=g/\g<=18446744073709551615:=by rw[<-o];exact p _ _
 clear p;go_enter func36,ntmps36;go_wp2;go_region
 go_wp2;go_region
 go_wp2;go_region
 go_wp2;go_region
 go_wp2;go_ret;have u:0<=g / 1048576 % c:=Int.emod_nonneg _ (by omega);have x:g / 1048576 % c<c:=Int.emod_lt_of_pos _ (by omega);have j:ύ (g / 1048576 % c)=g / 1048576 % c:=by unfold ύ;omega
 exact⟨_,g,rfl,by rw[j];exact u,by rw[j];exact x,z.1,z.2,rfl,rfl,rfl,rfl⟩
theorem n_in(b:Nat)(a:Int)(w:ω)(x A:Nat)(f s c:Nat)(d z:Int)(h:1<a)(O:a<=9223372036854775807)
  (H:w.cell? ⟨b,0,ν⟩=ς (σ (ς ⟨x,A,ν⟩) f s)) (I:w.cell? ⟨b,1,ν⟩=ς (.int .i64 (c:Int))) (K:w.cell? ⟨b,2,ν⟩=ς (.int .u64 d))
  (M:w.frozen? ⟨b,1,ν⟩=φ) (N:w.frozen? ⟨b,2,ν⟩=φ) (y:f<=1048576) (C:(c:Int)<(f:Int)) (D:0<=d) (E:d<=18446744073709551615)
  (L:w.cell? ⟨x,A+c,ν⟩=ς (.int .u8 z)) (R:0<=z) (S:z<=255) :
  χ prog 36 #[π (ς ⟨b,0,ν⟩),.int .i64 a] w fun e r=>∃k m:Int,e=ρ (.int .i64 k)/\0<=k/\k<a/\0<=m/\m<=18446744073709551615/\r.heap=((w.setCell ⟨b,1,ν⟩ (.int .i64 ((c:Int)+1))).setCell ⟨b,2,ν⟩ (.int .u64 m)).heap/\r.os=w.os/\r.tape=w.tape/\r.output=w.output:=by
 have F:=fun v G=>AF (w.setCell ⟨b,1,ν⟩ (.int .i64 ((c:Int)+1))) b 2 v G;have o:=tp;obtain⟨p,j⟩:∃m,bits .xor .u64 d (IntKind.u64.wrap (d*8192))=m:=⟨_,rfl⟩
 obtain⟨q,l⟩:∃m,bits .xor .u64 p (p / 128)=m:=⟨_,rfl⟩
 obtain⟨g,n⟩:∃m,bits .xor .u64 q (IntKind.u64.wrap (q*131072))=m:=⟨_,rfl⟩
 have P:0<=p/\p<=18446744073709551615:=by rw[<-j];exact o _ _
 have Q:0<=q/\q<=18446744073709551615:=by rw[<-l];exact o _ _
 have B:0<=g/\g<=18446744073709551615:=by rw[<-n];exact o _ _
 clear o;go_enter func36,ntmps36;go_wp2;go_region
 go_wp2;go_region
 go_wp2;go_region
 go_wp2;go_region
 go_wp2;go_region
 go_wp2;go_ret;have t:0<=(z+g / 1048576) % a:=Int.emod_nonneg _ (by omega);have u:(z+g / 1048576) % a<a:=Int.emod_lt_of_pos _ (by omega);have i:ύ ((z+g / 1048576) % a)=(z+g / 1048576) % a:=by unfold ύ;omega
 exact⟨_,g,rfl,by rw[i];exact t,by rw[i];exact u,B.1,B.2,rfl,rfl,rfl,rfl⟩
theorem il(h:w'.heap=w.heap)(a:η):w'.cell? a=w.cell? a:=World.cell?_of_block (by rw[h])
theorem fx(h:w'.heap=w.heap)(a:η):w'.frozen? a=w.frozen? a:=World.frozen?_of_block (by rw[h])
theorem bz(b:Nat)(c:Int)(w:ω)(M:aY b w)(N:c<=9223372036854775807):
  χ prog 36 #[π (ς ⟨b,0,ν⟩),.int .i64 c] w fun e q=>∃k:Int,e=ρ (.int .i64 k)/\0<=k/\(1<c->k<c)/\(c<=1->k=0)/\aY b q/\w.grownBy q (ς b):=by
 by_cases h:c<=1
 ·refine(NL b c w h).mono ?_;rintro e q ⟨rfl,rfl⟩;exact⟨0,rfl,Int.le_refl _,by omega,fun _=>rfl,M,⟨rfl,rfl,rfl,Ϗ _,fun _ _ _=>rfl⟩⟩
 obtain⟨a,i,l,f,r,size,G,H,c2,c3,I,v,s,K,X,Y,t,P,Q,R,S,L⟩:=M;by_cases y:f<i
 ·obtain⟨n,rfl⟩:∃n:Nat,f=(n:Int):=⟨f.toNat,by omega⟩
  rcases L with h0 | ⟨u,F,rfl,U,O⟩
  ·omega
  obtain⟨z,T,V,W⟩:=O n (by omega);refine(n_in b c w u F i l n r z (by omega) N G H c2 v s t y P Q T V W).mono ?_;rintro e q ⟨k,m,rfl,D,E,o,p,d,A,B,C⟩;have g:∀k,k≠b->q.heap[k]? = w.heap[k]?:=fun k j=>by rw[d,Below.heap_setCell _ _ _ _ j,Below.heap_setCell _ _ _ _ j]
  refine⟨k,rfl,D,fun _=>E,fun x=>absurd x h,⟨ς ⟨u,F,ν⟩,i,l,(n:Int)+1,m,size,?_,?_,?_,?_,?_,?_,?_,?_,by omega,by omega,t,o,p,R,S,Row.kept (.inr ⟨u,F,rfl,U,O⟩) (fun k j=>g k (by omega))⟩,
   ⟨A,B,C,by rw[d];simp[World.setCell],fun k _ j=>g k (fun e=>j (by rw[e]))⟩⟩
  ·rw[il d];go_simp
  ·rw[il d];go_simp
  ·rw[il d];go_simp
  ·rw[il d];go_simp
  ·rw[fx d];simp only[World.frozen?_setCell];exact I
  ·rw[fx d];simp only[World.frozen?_setCell];exact v
  ·rw[fx d];simp only[World.frozen?_setCell];exact s
  ·rw[fx d];simp only[World.frozen?_setCell];exact K
 ·refine(MU b c w a i l f r (by omega) N G H c2 s t (by omega) P Q).mono ?_;rintro e q ⟨k,m,rfl,D,E,o,p,d,A,B,C⟩;have g:∀k,k≠b->q.heap[k]? = w.heap[k]?:=fun k j=>by rw[d,Below.heap_setCell _ _ _ _ j]
  refine⟨k,rfl,D,fun _=>E,fun x=>absurd x h,⟨a,i,l,f,m,size,?_,?_,?_,?_,?_,?_,?_,?_,by omega,by omega,t,o,p,R,S,Row.kept L (fun k j=>g k (by omega))⟩,
   ⟨A,B,C,by rw[d];simp[World.setCell],fun k _ j=>g k (fun e=>j (by rw[e]))⟩⟩
  ·rw[il d];go_simp
  ·rw[il d];go_simp
  ·rw[il d];go_simp
  ·rw[il d];go_simp
  ·rw[fx d];simp only[World.frozen?_setCell];exact I
  ·rw[fx d];simp only[World.frozen?_setCell];exact v
  ·rw[fx d];simp only[World.frozen?_setCell];exact s
  ·rw[fx d];simp only[World.frozen?_setCell];exact K
theorem aY.kept{row:Option Nat}(h:aY b w)(z:w.grownBy w' row)(C:∀k,row=ς k->b<k):aY b w':=by
 obtain⟨a,j,i,g,l,size,m,q,r,s,t,u,v,x,n,p,A,D,E,F,s1,y⟩:=h;have B:b<w.1.size:=World.block_lt_of_cell? w ⟨b,0,ν⟩ m;have f:∀k,k<=b->w'.heap[k]? = w.heap[k]?:=fun k f=>z.block k (by omega) (fun e=>by have:=C k e.symm;omega);have c:∀o,w'.cell? ⟨b,o,ν⟩=w.cell? ⟨b,o,ν⟩:=fun o=>World.cell?_of_block (f b (Ϗ _));have d:∀o,w'.frozen? ⟨b,o,ν⟩=w.frozen? ⟨b,o,ν⟩:=fun o=>World.frozen?_of_block (f b (Ϗ _));exact⟨a,j,i,g,l,size,by rw[c];exact m,by rw[c];exact q,by rw[c];exact r,by rw[c];exact s,by rw[d];exact t,by rw[d];exact u,by rw[d];exact v,by rw[d];exact x,n,p,A,D,E,F,s1,y.kept (fun k h=>f k (by omega))⟩
theorem aj{a b c:ω}{row:Option Nat}(h:a.grownBy b row)(k:b.grownBy c row):a.grownBy c row:=
 ⟨k.os.trans h.os,k.tape.trans h.tape,k.output.trans h.output,Nat.le_trans h.size k.size,fun i d e=>(k.block i (ϐ d h.size) e).trans (h.block i d e)⟩
theorem aY.lt(h:aY b w):b<w.1.size:=by
 obtain⟨a,f,e,c,g,size,d,_⟩:=h;exact World.block_lt_of_cell? w ⟨b,0,ν⟩ d
theorem bW(b:Nat)(of:Int)(w:ω)(d:aY b w)(i:of<=9223372036854775807):
  χ prog 46 #[π (ς ⟨b,0,ν⟩),.int .i64 of] w fun e f=>∃y:Bool,e=ρ (β y)/\aY b f/\w.grownBy f (ς b):=by
 have g:=yz d;clear d;go_enter func46,ntmps46;go_wp2_with fail;refine(bz b of w (yx g) i).mono ?_;rintro e n ⟨k,rfl,j,l,m,a,h⟩;have c:=yz a;clear a;go_wp2;go_ret;exact⟨_,rfl,yx c,h⟩
end
section
variable {a b:ω}
theorem Eg{c:ω}{d r:Option Nat}(h:a.grownBy b d)(k:b.grownBy c r)(j:∀i,r=ς i->a.1.size<=i):a.grownBy c d:=
 ⟨k.os.trans h.os,k.tape.trans h.tape,k.output.trans h.output,Nat.le_trans h.size k.size,fun i f g=>(k.block i (ϐ f h.size) (fun e=>by have:=j i e.symm;omega)).trans (h.block i f g)⟩
theorem BT{c:Option Nat}(h:a.grownBy b c)(o:Obj):a.grownBy (b.alloc o) c:=Eg h (World.grownBy_alloc b o ν) (fun i e=>by cases e)
theorem iJ(w c:ω)(b:Nat)(T:TypeId)(a:Array μ)(d:(w.alloc (ξ a T)).grownBy c (ς b))(g:b<w.1.size)(k:Nat)(v:μ)(f:a[k]? = ς v):
  c.cell? ⟨w.1.size,k,ν⟩=ς v:=by
 refine d.cell ?_ (by intro e;have:=Option.some.inj e;simp at this;omega);simp[f]
end
end Go.Proofs.YtnnhjegapofopaaGreatDoor
