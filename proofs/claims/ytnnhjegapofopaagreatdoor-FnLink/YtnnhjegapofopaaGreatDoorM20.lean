import Derived.Lib.SmallJoins
import Derived.ShutString
import Derived.ChangeSame
import Derived.ChangeVars
import Derived.JoinedOf
import Derived.RowKit
import Derived.LaidLaws
import Derived.Stop.Joined
import Derived.Test.YtnnhjegapofopaaGreatDoorM18
namespace Go.Proofs.YtnnhjegapofopaaGreatDoor
set_option linter.all false
set_option maxRecDepth 100000
set_option maxHeartbeats 8000000
open Go.RowKit Go.Sort Go.Proofs.Tryz
open Go.Value renaming int -> J,slice -> σ,string -> τ,agg -> κ,pointer -> π,bool -> β
open Go.Obj renaming cells -> ξ
open Go.Ending renaming returned -> ρ
open Go renaming World -> ω,Value -> μ,Calls -> χ,Addr -> η,cell_regrown -> ϊ,bodyPost_ret -> ϋ
open Go.RowKit renaming Below -> δ
open Option renaming none -> ν,some -> ς
open Bool renaming true -> θ,false -> φ,and_eq_true -> ϒ
open Option.some renaming inj -> ό
open Nat renaming le_refl -> ύ,le_trans -> ώ,lt_of_lt_of_le -> Ϗ,lt_succ_self -> ϐ,zero_le -> ϑ
open Go.IntKind renaming i64 -> Z
theorem rY(T:Array μ)(X:ω)(b:Nat)(v:μ)(lim d A B C D a e c:Int)(f:T.getD 4 undef=π (ς ⟨b,0,ν⟩))(h:TkO X b v lim d A B C D a e c):(results f20 T).run prog X=.ok (κ #[v,J Z lim,J Z d,J Z A,J Z B,J Z C,J Z D,J Z a,J Z e,J Z c]) X:=by
 obtain⟨⟨g,i,j,k,l,m,n,o,p⟩,q⟩:=h;simp only[Array.getD_eq_getD_getElem?]at f;simp[results,results20,go_sem,f,g,i,j,k,l,m,n,o,p,q]
theorem sR(b:Int)(L:List St)(lim d A B C D a u:Int)(r:Option η)(c:Nat)(S:List D3)(k l m n q o p j:Int)(i:ByteArray)(s:Option η)(t:Nat)(w:ω)(H:L.length<=1048576)(F:aO w r L L.length)(G:∀y,r=ς y->y.block<w.1.size)(h:S.length<=1048576)(g:S.length<=t)(f:t<=9223372036854775807)(E:bu w s S S.length)(z:∀y,s=ς y->y.block<w.1.size)(x:bA ⟨b,k,l,m,n,S,q,o,i,p,j⟩=θ)(I:i.size<=maxLen):
  χ prog 54 #[κ #[σ r L.length c,J Z lim,J Z d,J Z A,J Z B,J Z C,J Z D,J Z a,J Z u],κ #[J Z b,J Z k,J Z l,J Z m,J Z n,σ s S.length t,J Z q,J Z o,τ i,J Z p,J Z j]] w fun e K=>jy K w.1.size (eM ⟨L,lim,d,A,B,C,D,a,u⟩ ⟨b,k,l,m,n,S,q,o,i,p,j⟩) (fj ⟨L,lim,d,A,B,C,D,a,u⟩ ⟨b,k,l,m,n,S,q,o,i,p,j⟩) e/\δ w.1.size w K:=by
 rcases lR x with v | v | v | v
 ·obtain rfl:b=1:=v;exact He L lim d A B C D a u r c S k l m n q o p j i s t w H F G h g f E z x I
 ·obtain rfl:b=2:=v;exact Hf L lim d A B C D a u r c S k l m n q o p j i s t w H F G h g f E z x I
 ·obtain rfl:b=3:=v;exact Hg L lim d A B C D a u r c S k l m n q o p j i s t w H F G h g f E z x I
 ·obtain rfl:b=4:=v;exact Hh L lim d A B C D a u r c S k l m n q o p j i s t w H F G h g f E z x I
theorem AM(b:Int)(L:List St)(lim d A B C D a r:Int)(E:Option η)(c:Nat)(S:List D3)(k l m n q o p j:Int)(g:ByteArray)(u:Option η)(x:Nat)(w:ω)(hn:L.length<=1048576)(hS:aO w E L L.length)(hb:∀y,E=ς y->y.block<w.1.size)(X:S.length<=1048576)(ab:S.length<=x)(aa:x<=9223372036854775807)(hD:bu w u S S.length)(hB:∀y,u=ς y->y.block<w.1.size)(hs:g.size<=maxLen):
  χ prog 20 #[κ #[σ E L.length c,J Z lim,J Z d,J Z A,J Z B,J Z C,J Z D,J Z a,J Z r],κ #[J Z b,J Z k,J Z l,J Z m,J Z n,σ u S.length x,J Z q,J Z o,τ g,J Z p,J Z j]] w fun e w'=>jy w' w.1.size (eM ⟨L,lim,d,A,B,C,D,a,r⟩ ⟨b,k,l,m,n,S,q,o,g,p,j⟩) (fj ⟨L,lim,d,A,B,C,D,a,r⟩ ⟨b,k,l,m,n,S,q,o,g,p,j⟩) e/\δ w.1.size w w':=by
 have B0:=yz (bT w (ξ #[σ E L.length c,J Z lim,J Z d,J Z A,J Z B,J Z C,J Z D,J Z a,J Z r] 38) (ξ #[J Z b,J Z k,J Z l,J Z m,J Z n,σ u S.length x,J Z q,J Z o,τ g,J Z p,J Z j] 29) (ξ #[σ ν 0 0,J Z 0,J Z 0,J Z 0,J Z 0,J Z 0,J Z 0,J Z 0,J Z 0,J Z 0] 52));have A0:=yz (((aq w [σ E L.length c,J Z lim,J Z d,J Z A,J Z B,J Z C,J Z D,J Z a,J Z r] 38).alloc (ξ #[J Z b,J Z k,J Z l,J Z m,J Z n,σ u S.length x,J Z q,J Z o,τ g,J Z p,J Z j] 29)).alloc (ξ #[σ ν 0 0,J Z 0,J Z 0,J Z 0,J Z 0,J Z 0,J Z 0,J Z 0,J Z 0,J Z 0] 52));have K0:=yz ((by simpa using aq (w.alloc (ξ #[σ E L.length c,J Z lim,J Z d,J Z A,J Z B,J Z C,J Z D,J Z a,J Z r] 38)) [J Z b,J Z k,J Z l,J Z m,J Z n,σ u S.length x,J Z q,J Z o,τ g,J Z p,J Z j] 29:Blk ((w.alloc (ξ #[σ E L.length c,J Z lim,J Z d,J Z A,J Z B,J Z C,J Z D,J Z a,J Z r] 38)).alloc (ξ #[J Z b,J Z k,J Z l,J Z m,J Z n,σ u S.length x,J Z q,J Z o,τ g,J Z p,J Z j] 29)) (w.1.size+1) [J Z b,J Z k,J Z l,J Z m,J Z n,σ u S.length x,J Z q,J Z o,τ g,J Z p,J Z j] 29).alloc (ξ #[σ ν 0 0,J Z 0,J Z 0,J Z 0,J Z 0,J Z 0,J Z 0,J Z 0,J Z 0,J Z 0] 52));have R0:=yz (by simpa using aq ((w.alloc (ξ #[σ E L.length c,J Z lim,J Z d,J Z A,J Z B,J Z C,J Z D,J Z a,J Z r] 38)).alloc (ξ #[J Z b,J Z k,J Z l,J Z m,J Z n,σ u S.length x,J Z q,J Z o,τ g,J Z p,J Z j] 29)) [σ ν 0 0,J Z 0,J Z 0,J Z 0,J Z 0,J Z 0,J Z 0,J Z 0,J Z 0,J Z 0] 52:Blk (((w.alloc (ξ #[σ E L.length c,J Z lim,J Z d,J Z A,J Z B,J Z C,J Z D,J Z a,J Z r] 38)).alloc (ξ #[J Z b,J Z k,J Z l,J Z m,J Z n,σ u S.length x,J Z q,J Z o,τ g,J Z p,J Z j] 29)).alloc (ξ #[σ ν 0 0,J Z 0,J Z 0,J Z 0,J Z 0,J Z 0,J Z 0,J Z 0,J Z 0,J Z 0] 52)) (w.1.size+1+1) [σ ν 0 0,J Z 0,J Z 0,J Z 0,J Z 0,J Z 0,J Z 0,J Z 0,J Z 0,J Z 0] 52);have ac:w.1.size+1+1+1<=(((w.alloc (ξ #[σ E L.length c,J Z lim,J Z d,J Z A,J Z B,J Z C,J Z D,J Z a,J Z r] 38)).alloc (ξ #[J Z b,J Z k,J Z l,J Z m,J Z n,σ u S.length x,J Z q,J Z o,τ g,J Z p,J Z j] 29)).alloc (ξ #[σ ν 0 0,J Z 0,J Z 0,J Z 0,J Z 0,J Z 0,J Z 0,J Z 0,J Z 0,J Z 0] 52)).1.size:=by simp
 have cT:=yz (fh L lim d A B C D a r E c _ hn (hS.kept (yx B0)));have cC:=yz (fun (W:ω) (h:δ w.1.size w W)=>cd S b k l m n q o p j g u x W X (hD.kept h));have P:=yz (fun (W:ω) (h:δ w.1.size w W) (hc:bA ⟨b,k,l,m,n,S,q,o,g,p,j⟩=θ)=>sR b L lim d A B C D a r E c S k l m n q o p j g u x W hn (hS.kept h) (fun y e=>Ϗ (hb y e) h.size) X ab aa (hD.kept h) (fun y e=>Ϗ (hB y e) h.size) hc hs);have R:=yz (fun h=>JN (t:=⟨L,lim,d,A,B,C,D,a,r⟩) (c:=⟨b,k,l,m,n,S,q,o,g,p,j⟩) h);have O:=yz (fun h=>uf (t:=⟨L,lim,d,A,B,C,D,a,r⟩) (c:=⟨b,k,l,m,n,S,q,o,g,p,j⟩) h);obtain⟨t2,Y⟩:∃z,eM ⟨L,lim,d,A,B,C,D,a,r⟩ ⟨b,k,l,m,n,S,q,o,g,p,j⟩=z:=⟨_,rfl⟩
 obtain⟨F,V⟩:∃z,fj ⟨L,lim,d,A,B,C,D,a,r⟩ ⟨b,k,l,m,n,S,q,o,g,p,j⟩=z:=⟨_,rfl⟩
 rw[Y,V]at P R O ⊢;generalize aM ⟨L,lim,d,A,B,C,D,a,r⟩=tb at cT R;generalize bA ⟨b,k,l,m,n,S,q,o,g,p,j⟩=cb at cC P O;clear Y V hS hD hb hB;go_enter func20,ntmps20;have q0:=bO (yx A0);go_wp2_with fail;clear q0;refine(yx cT).mono ?_;rintro e w1 ⟨rfl,f⟩;have Q:=aB B0 f;have A1:=ap A0 f;have K1:=ap K0 f;have R1:=ap R0 f;have ae:=f.size;clear f B0 A0 K0 R0 cT;cases tb
 ·have T:=yz (yx R rfl);clear R O cC P;go_wp2_with fail;refine(ee 1 _).mono ?_;rintro e w2 ⟨rfl,f⟩;have H:=ap R1 f;have I:=aB Q f;clear f R1 Q A1 K1;have r0:=ck (yx H);have U:=dU (yx H);go_wp2_with fail;clear r0 U;refine ϋ (v:=κ #[σ ν 0 0,J Z 0,J Z 0,J Z 0,J Z 0,J Z 0,J Z 0,J Z 0,J Z 0,J Z 1]) ?_ rfl ⟨?_,?_⟩
  ·exact rY _ _ (w.1.size+1+1) _ 0 0 0 0 0 0 0 0 1 rfl (bJ (aZ (yx H) rfl _ 0 0 0 0 0 0 0 0 1))
  ·rw[(yx T).1,(yx T).2];exact du _ _ _
  ·iterate 10 (refine aF ?_ (Nat.le_add_right _ 2) _ _)
   exact yx I
 clear R;have k0:=bV (yx K1);go_wp2_with fail;clear k0;refine(yx cC _ (yx Q)).mono ?_;rintro e w2 ⟨rfl,f⟩;have I:=aB Q f;have A2:=ap A1 f;have K2:=ap K1 f;have H:=ap R1 f;have af:=f.size;clear f Q A1 K1 R1 cC;cases cb
 ·have T:=yz (yx O rfl);clear O P;go_wp2_with fail;refine(ee 1 _).mono ?_;rintro e w3 ⟨rfl,f⟩;have R3:=ap H f;have B3:=aB I f;clear f H I A2 K2;have r0:=ck (yx R3);have U:=dU (yx R3);go_wp2_with fail;clear r0 U;refine ϋ (v:=κ #[σ ν 0 0,J Z 0,J Z 0,J Z 0,J Z 0,J Z 0,J Z 0,J Z 0,J Z 0,J Z 1]) ?_ rfl ⟨?_,?_⟩
  ·exact rY _ _ (w.1.size+1+1) _ 0 0 0 0 0 0 0 0 1 rfl (bJ (aZ (yx R3) rfl _ 0 0 0 0 0 0 0 0 1))
  ·rw[(yx T).1,(yx T).2];exact du _ _ _
  ·iterate 10 (refine aF ?_ (Nat.le_add_right _ 2) _ _)
   exact yx B3
 clear O;obtain⟨L2,G,s,A2',K,C2,M,i,N⟩:=t2;have q0:=bO (yx A2);have k0:=bV (yx K2);go_wp2_with fail;clear q0 k0;refine(yx P _ (yx I) (by first | rfl | trivial)).mono ?_;rintro e w3 ⟨⟨a2,c2,rfl,hC⟩,f⟩;dsimp only at hC;have C5:=yz (hC.low (B':=w.1.size+1+1+1) (by omega));have R5:=ap H f;have B5:=aB I f;clear f hC H I A2 K2 P;have r0:=ck (yx R5);have U:=dU (yx R5);go_wp2_with fail;clear r0 U;refine ϋ (v:=κ #[σ a2 L2.length c2,J Z G,J Z s,J Z A2',J Z K,J Z C2,J Z M,J Z i,J Z N,J Z F]) ?_ rfl ⟨?_,?_⟩
 ·exact rY _ _ (w.1.size+1+1) _ G s A2' K C2 M i N F rfl (bJ (aZ (yx R5) rfl _ G s A2' K C2 M i N F))
 ·refine⟨a2,c2,rfl,?_⟩;refine ax.low (B:=w.1.size+1+1+1) ?_ (by omega);iterate 10 (refine ax.far ?_ (ϐ (w.1.size+1+1)) _ _)
  exact yx C5
 ·iterate 10 (refine aF ?_ (Nat.le_add_right _ 2) _ _)
  exact yx B5
theorem yI(t:Tk)(S:List D3)(h:t.L.length<=1048576):(cx t S).L.length<=1048576:=by
 unfold cx;split
 ·exact ϑ _
 ·split
  ·split
   ·exact ϑ _
   ·rw[Aj];exact h
  ·exact ϑ _
def KP(t:Tk):ByteArray:=aL t.mode ++ aL t.A ++ aL t.B ++ aL t.C ++ aL t.D ++ aL t.coast ++ aL t.fr
def fY(t:Tk):ByteArray:=if aM t=θ then bh (KP t) else ⟨#[]⟩
theorem EY(t:Tk):ba [t.mode,t.A,t.B,t.C,t.D,t.coast,t.fr] 7=KP t:=by
 unfold KP;simp only[ba,List.getD_cons_zero,List.getD_cons_succ];have e:(⟨#[]⟩:ByteArray) ++ aL t.mode=aL t.mode:=ByteArray.empty_append;rw[e]
theorem rk{t:Tk}(h:aM t=θ):(0<=t.mode/\t.mode<=2)/\((-5<=t.A/\t.A<=5)/\(-5<=t.B/\t.B<=5)/\(-5<=t.C/\t.C<=5)/\(-5<=t.D/\t.D<=5))/\(0<=t.coast/\t.coast<=5)/\(0<=t.fr/\t.fr<=1000000):=by
 unfold aM oZ at h;simp only[ϒ]at h;obtain⟨⟨⟨o,i⟩,f⟩,e⟩:=h;rw[iU]at i f;have g:∀ {a b c d:Int},aG a b c d=θ->(-5<=a/\a<=5)/\(-5<=b/\b<=5)/\(-5<=c/\c<=5)/\(-5<=d/\d<=5):=fun h=>ej.1 (dt.1 h).1;unfold lH at e;split at e
 ·rename_i n
  simp only[ϒ,eqT,decide_eq_true_eq]at e;refine⟨by omega,?_,by omega,f⟩;obtain⟨⟨j,k,l,m⟩,_⟩:=e;refine⟨?_,?_,?_,?_⟩<;>omega
 ·split at e
  ·simp only[ϒ,decide_eq_true_eq]at e;exact⟨by omega,g e.1,by omega,f⟩
  ·split at e
   ·simp only[ϒ,iU]at e;exact⟨by omega,g e.1,by omega,f⟩
   ·cases e
theorem qu(L:List St)(lim d A B C D b f:Int)(a:Option η)(c:Nat)(p:η)(w:ω)(M:L.length<=1048576)(j:L.length<=c)(q:c<=9223372036854775807)(F:aO w a L L.length)(E:bQ p w):
  χ prog 21 #[κ #[σ a L.length c,J Z lim,J Z d,J Z A,J Z B,J Z C,J Z D,J Z b,J Z f]] w fun e W=>e=ρ (τ (fY ⟨L,lim,d,A,B,C,D,b,f⟩))/\δ w.1.size w W:=by
 have m:=yz (an w (ξ #[σ a L.length c,J Z lim,J Z d,J Z A,J Z B,J Z C,J Z D,J Z b,J Z f] 38));have v:=yz (eH w (σ a L.length c) lim d A B C D b f 38);have y:=yz (gQ L lim d A B C D b f a c p (w.alloc (ξ #[σ a L.length c,J Z lim,J Z d,J Z A,J Z B,J Z C,J Z D,J Z b,J Z f] 38)) M j q (F.kept (yx m)) (E.kept (yx m)));clear F E;go_enter func21,ntmps21;go_wp2_with fail;refine(yx y).mono ?_;rintro e l ⟨rfl,g⟩;have r:=aB m g;have x:=ap v g;clear g m v y;cases k:aM ⟨L,lim,d,A,B,C,D,b,f⟩
 ·have n:Hid (fY ⟨L,lim,d,A,B,C,D,b,f⟩=⟨#[]⟩):=yz (by unfold fY;rw[k];rfl);clear k;go_wp2;go_ret;exact⟨by rw[yx n];rfl,yx r⟩
 have n:Hid (fY ⟨L,lim,d,A,B,C,D,b,f⟩=bh (ba [d,A,B,C,D,b,f] 7)):=yz (by unfold fY;rw[k];exact congrArg bh (EY ⟨L,lim,d,A,B,C,D,b,f⟩).symm);have h:=rk k;dsimp only at h;clear k;have u:Hid (MA (l.alloc (ξ #[J Z d,J Z A,J Z B,J Z C,J Z D,J Z b,J Z f] 2)) (ς ⟨l.1.size,0,ν⟩) [d,A,B,C,D,b,f]):=yz (qE l [d,A,B,C,D,b,f] 2);have s:=yz (ak (yx r) (an l (ξ #[J Z d,J Z A,J Z B,J Z C,J Z D,J Z b,J Z f] 2)))
 have o:=yz (gY [d,A,B,C,D,b,f] (ς ⟨l.1.size,0,ν⟩) 7 _ (by simp) (fun i I=>by
  have K:i<7:=I;have H:i=0\/i=1\/i=2\/i=3\/i=4\/i=5\/i=6:=by omega
  unfold okI
  rcases H with rfl | rfl | rfl | rfl | rfl | rfl | rfl<;>simp only[List.getD_cons_zero,List.getD_cons_succ]<;>omega) (yx u))
 have X:=eo [d,A,B,C,D,b,f] 7;have z:[d,A,B,C,D,b,f].length=7:=rfl;rw[z]at o;generalize ba [d,A,B,C,D,b,f] 7=V at *;clear h u z;obtain⟨N,O,q2,P,Q,R,S,T,U⟩:=yx x;go_wp2_with fail;clear N O q2 P Q R S T U;refine(yx o).mono ?_;rintro e Y ⟨rfl,g⟩;have t:=aB s g;clear g s o x;go_wp2_with fail;refine(jI V _ (by omega)).mono ?_;rintro e w3 ⟨rfl,g⟩;have G:=aB t g;clear g t;go_wp2;go_ret;exact⟨by rw[yx n];rfl,yx G⟩
theorem qY(L:List St)(lim d A B C D b f:Int)(a:Option η)(c:Nat)(w:ω)(Y:L.length<=1048576)(E:aO w a L L.length):
  χ prog 22 #[κ #[σ a L.length c,J Z lim,J Z d,J Z A,J Z B,J Z C,J Z D,J Z b,J Z f]] w fun e w'=>e=ρ (τ (fY ⟨L,lim,d,A,B,C,D,b,f⟩))/\δ w.1.size w w':=by
 have q:=yz (an w (ξ #[σ a L.length c,J Z lim,J Z d,J Z A,J Z B,J Z C,J Z D,J Z b,J Z f] 38));have v:=yz (eH w (σ a L.length c) lim d A B C D b f 38);have y:=yz (fh L lim d A B C D b f a c (w.alloc (ξ #[σ a L.length c,J Z lim,J Z d,J Z A,J Z B,J Z C,J Z D,J Z b,J Z f] 38)) Y (E.kept (yx q)));clear E;go_enter func22,ntmps22;go_wp2_with fail;refine(yx y).mono ?_;rintro e V ⟨rfl,i⟩;have r:=aB q i;have x:=ap v i;clear i q v y;cases m:aM ⟨L,lim,d,A,B,C,D,b,f⟩
 ·have t:Hid (fY ⟨L,lim,d,A,B,C,D,b,f⟩=⟨#[]⟩):=yz (by unfold fY;rw[m];rfl);clear m;go_wp2;go_ret;exact⟨by rw[yx t];rfl,yx r⟩
 have t:Hid (fY ⟨L,lim,d,A,B,C,D,b,f⟩=bh (aL d ++ aL A ++ aL B ++ aL C ++ aL D ++ aL b ++ aL f)):=yz (by unfold fY;rw[m];rfl);have l:=rk m;dsimp only at l;clear m;have F:=yz (fun W=>aN d W (by omega) (by omega));have G:=yz (fun W=>aN A W (by omega) (by omega));have H:=yz (fun W=>aN B W (by omega) (by omega));have I:=yz (fun W=>aN C W (by omega) (by omega));have K:=yz (fun W=>aN D W (by omega) (by omega));have M:=yz (fun W=>aN b W (by omega) (by omega));have N:=yz (fun W=>aN f W (by omega) (by omega));have z1:=(aU d).2;have z2:=(aU A).2;have z3:=(aU B).2;have z4:=(aU C).2;have z5:=(aU D).2;have z6:=(aU b).2;have z7:=(aU f).2;generalize aL d=g at *;generalize aL A=h at *;generalize aL B=j at *;generalize aL C=k at *;generalize aL D=n at *;generalize aL b=p at *;generalize aL f=u at *;have y2:¬g.size+h.size>9223372036854775807:=by omega
 have y3:¬g.size+h.size+j.size>9223372036854775807:=by omega
 have y4:¬g.size+h.size+j.size+k.size>9223372036854775807:=by omega
 have y5:¬g.size+h.size+j.size+k.size+n.size>9223372036854775807:=by omega
 have y6:¬g.size+h.size+j.size+k.size+n.size+p.size>9223372036854775807:=by omega
 have y7:¬g.size+h.size+j.size+k.size+n.size+p.size+u.size>9223372036854775807:=by omega
 have X:=yz (fun W=>fK (g ++ h ++ j ++ k ++ n ++ p ++ u) W (by simp only[ByteArray.size_append];omega));generalize bh (g ++ h ++ j ++ k ++ n ++ p ++ u)=sx at *;clear l z1 z2 z3 z4 z5 z6 z7;obtain⟨q0,q1,O,P,Q,R,S,T,U⟩:=yx x;have r2:=ϊ O;have r3:=ϊ P;have r4:=ϊ Q;have r5:=ϊ R;have r6:=ϊ S;have r7:=ϊ T;have r8:=ϊ U;clear q0 q1 O P Q R S T U x;go_wp2_with fail;refine de ?_;repeat (go_big_quiet_step (with_reducible first | exact aH F | exact aH G | exact aH H | exact aH I | exact aH K | exact aH M | exact aH N | exact aH X))
 refine di fun z o=>?_;have i:=ak (yx r) (below_regrown V z o);generalize grow (redrawn V z) o=W2 at i ⊢;have s:=yz i;clear i r2 r3 r4 r5 r6 r7 r8 F G H I K M N r;go_wp2;go_ret;exact⟨by rw[yx t];rfl,yx s⟩
section
theorem mF(t:Tk)(c:Cm)(h:t.L.length<=1048576):(eM t c).L.length<=1048576:=by
 unfold eM;split
 ·split
  ·unfold fJ;split;exact h;exact ϑ _
  ·split
   ·unfold fy;split;rw[wW];exact h;exact ϑ _
   ·split
    ·exact yI _ _ h
    ·exact yI _ _ h
 ·exact ϑ _
def eG(s:ByteArray)(t:Tk)(q:Nat):Option (Tk×Nat):=
 match dM s q with
 | none=>ν
 | some (x,q2)=>if dO x=0/\fj t (gK x)=0 then ς (eM t (gK x),q2) else ν
def dk(s:ByteArray):Nat->Tk->Nat->List ByteArray->Tk×Nat×List ByteArray
 | 0,t,q,T=>(t,q,T)
 | n+1,t,q,T=>match eG s t q with
  | none=>(t,q,T)
  | some (t2,q2)=>dk s n t2 q2 (T ++ [fY t2])
def eL(s:ByteArray)(t:Tk):(Tk×Nat×List ByteArray)×Int:=
 if 8000<s.size then ((dW,0,[]),2) else if aM t=θ then (dk s 400 t 0 [],0) else ((dW,0,[]),1)
variable {s x:ByteArray} {q q2:Nat}
theorem dG{t:Tk}(h:eG s t q=ν)(n:Nat)(T:List ByteArray):dk s n t q T=(t,q,T):=by
 cases n
 ·rfl
 ·unfold dk;rw[h]
theorem jl{t t2:Tk}(h:eG s t q=ς (t2,q2))(n:Nat)(T:List ByteArray):dk s (n+1) t q T=dk s n t2 q2 (T ++ [fY t2]):=by rw[dk,h]
theorem AP{t:Tk}(h:dM s q=ν):eG s t q=ν:=by unfold eG;rw[h]
theorem oC(h:dM s q=ς (x,q2)):q2<=s.size/\x.size<=s.size/\q<s.size:=by
 unfold dM at h;cases a:bR s (q:Int) with
 | error c=>rw[a]at h;cases h
 | ok y=>
  rw[a]at h;obtain rfl:=ό h;unfold bR at a;cases b:dj s (q:Int) with
  | error c=>rw[b]at a;cases a
  | ok z=>
   rw[b]at a;have f:=pw b
   have d:q<s.size:=by
    have e:dj s (q:Int)=bU s q 10 0 0:=by unfold dj;rw[if_neg (by omega)];rfl
    rw[e,bU]at b;split at b
    ·cases b
    ·omega
   dsimp only at a;split at a
   ·cases a
   ·split at a
    ·cases a
    ·have:=Except.ok.inj a;obtain⟨rfl,rfl⟩:=Prod.mk.inj this;refine⟨by omega,?_,d⟩;rw[ByteArray.size_extract];omega
theorem uP(h:dO x=0):bA (gK x)=θ/\(gK x).px.size<=maxLen:=by
 have a:bA (gK x)=θ:=by
  unfold dO at h;unfold gK;split at h
  ·rename_i f
   rw[if_pos f];split at h
   ·omega
   ·rename_i c q e
    split at h
    ·rename_i g
     try rw[e]
     try dsimp only
     rw[if_pos g];exact g.2
    ·omega
  ·rename_i f;exact absurd h f
 refine⟨a,?_⟩;generalize gK x=c at *;have k:∀p:ByteArray,p.toList=[]->p.size<=maxLen:=fun p e=>by rw[kX e];exact ϑ _
 have b:iF c=θ->c.px.size<=maxLen:=fun b=>by
  unfold iF fr0 at b;simp only[ϒ,decide_eq_true_eq]at b;exact k _ b.1.1.2
 rcases lR a with d | d | d | d
 ·rw[Bq d]at a;simp only[ϒ]at a;exact b a.2
 ·rw[uM d]at a;simp only[ϒ]at a;exact b a.2
 ·rw[oR d]at a;simp only[ϒ]at a;exact b a.2
 ·rw[oS d]at a;simp only[ϒ]at a;obtain⟨l,i,m,j,n⟩:=fF.1 a.1.1.2;have o:c.wd*c.ht<=16*12:=Int.mul_le_mul i j (by omega) (by omega);exact ώ (show c.px.size<=192 by omega) (by decide +kernel)
end
theorem pq{t:Tk}(h:aM t=θ):aM (FL t)=θ:=by
 unfold aM at h ⊢;rw[ϒ]at h ⊢;exact⟨h.1,rfl⟩
theorem IP{a b c d e f g i:Int}(h:coK a b c d e f g i=0):aG a b c d=θ/\aG (zB a b c d e f g i) (zD a b c d e f g i) (zE a b c d e f g i) (zF a b c d e f g i)=θ:=by
 unfold coK at h;split at h
 ·rename_i j
  have k:aG a b c d=θ:=by unfold coR at j;rw[ϒ]at j;exact j.1
  refine⟨k,?_⟩;have:=(Hr h).2.2;unfold zB zD zE zF coP ofP;simp only[if_pos j,if_pos h];exact this
 ·cases h
theorem AU{t:Tk}(h:aM t=θ)(a b c d:Int):aM (dv t a b c d)=θ:=by
 unfold dv;split
 ·exact h
 ·rename_i j
  split
  ·rename_i k
   have i:=(IP k).2;have e:=pN h;unfold aM at h ⊢;rw[ϒ]at h ⊢;refine⟨h.1,?_⟩;by_cases f:t.mode=1
   ·rw[nH f,ϒ]at e;rw[nH (by exact f),ϒ];exact⟨i,e.2⟩
   ·by_cases g:t.mode=2
    ·rw[pt g,ϒ]at e;rw[pt (by exact g),ϒ];exact⟨i,e.2⟩
    ·rw[vQ j f g]at e;cases e
  ·exact pq h
theorem BK{L:List St}{S:List D3}(h:(bD L S).2=0):aG (bD L S).1.1 (bD L S).1.2.1 (bD L S).1.2.2.1 (bD L S).1.2.2.2=θ:=by
 unfold bD at h ⊢;split at h
 ·rename_i a
  rw[if_pos a];unfold lE at h ⊢;split at h
  ·cases h
  ·rename_i c
   rw[if_neg c];split at h
   ·rename_i d
    rw[if_pos d];split at h
    ·cases h
    ·rename_i f
     rw[if_neg f];unfold gL at h ⊢;split at h
     ·rename_i t i
      have g:=List.mem_of_find?_eq_some i;obtain⟨k,a,e⟩:=List.getElem_of_mem g;have:=nR a;have b:tA (aE 625) k=t:=by unfold tA;rw[List.getD_eq_getElem?_getD,List.getElem?_eq_getElem a,e];rfl
      rw[b]at this;exact this
     ·cases h
   ·cases h
 ·rename_i a
  exact absurd h a
theorem BM{t:Tk}(h:aM t=θ)(b:t.fr≠1000000):oZ { t with fr:=t.fr+1 } = θ:=by
 have a:=KV h;unfold aM oZ at h;simp only[ϒ]at h;unfold oZ;simp only[ϒ];exact⟨h.1.1,qV (by show 0<=t.fr+1;omega) (by show t.fr+1<=1000000;omega)⟩
theorem vM{t:Tk}(h:aM t=θ)(S:List D3)(i:t.fr≠1000000):aM (eT t S)=θ:=by
 have b:=BM h i;have a:=pN h;unfold eT;split
 ·rename_i c
  have f:=pQ h c.1;unfold aM;rw[ϒ];refine⟨b,?_⟩;rw[nH rfl,ϒ];exact⟨f,rfl⟩
 ·split
  ·rename_i d
   unfold aM;rw[ϒ];refine⟨b,?_⟩;rw[nH rfl,ϒ];exact⟨BK d,rfl⟩
  ·unfold bS;split
   ·unfold aM;rw[ϒ];exact⟨b,a⟩
   ·rename_i g
    split
    ·unfold aM;rw[ϒ];exact⟨b,rfl⟩
    ·rename_i j
     have f:=pQ h g
     have k:0<=t.coast:=by
      by_cases c:t.mode=1
      ·rw[nH c,ϒ]at a;have:=of_decide_eq_true a.2;omega
      ·by_cases d:t.mode=2
       ·rw[pt d,ϒ]at a;have:=(iU.1 a.2).1;omega
       ·have e:t.mode≠0:=g;rw[vQ e c d]at a;cases a
     unfold aM;rw[ϒ];refine⟨b,?_⟩;rw[pt rfl,ϒ];exact⟨f,qV (by show 1<=t.coast+1;omega) (by show t.coast+1<=t.lim;have:¬t.lim<t.coast+1:=j;omega)⟩
theorem vu{t:Tk}{a b c d:Int}(h:iL t a b c d=0):aM t=θ/\aG a b c d=θ/\fy t a b c d=dv t a b c d/\aM (fy t a b c d)=θ:=by
 unfold iL at h;split at h
 ·rename_i f
  have e:fy t a b c d=dv t a b c d:=by unfold fy;rw[if_pos f]
  unfold iM at f;rw[ϒ]at f;exact⟨f.1,f.2,e,by rw[e];exact AU f.1 _ _ _ _⟩
 ·cases h
section
variable {s:ByteArray} {a d q q2:Nat}
theorem Ft{p j:Nat}(b:q<=s.size)(a:p+j<q):bK (s.extract p q) j=bK s (p+j):=fa a b
theorem CX(c:a<=s.size)(p:Nat):∀(k i u:Nat) {r:Nat×Nat},bU (s.extract 0 a) p k i u=.ok r->bU s p k i u=.ok r/\r.2<=a
 | 0,_,_,_,h=>by cases h
 | k+1,i,u,r,h=>by
  have g:(s.extract 0 a).size=a:=by simp;omega
  rw[bU,g]at h;split at h
  ·cases h
  ·rename_i j
   have e:bK (s.extract 0 a) (p+i)=bK s (p+i):=by rw[Ft c (by omega),Nat.zero_add]
   rw[e]at h;rw[bU,if_neg (by omega)];split at h
   ·cases h
   ·rename_i d
    rw[if_neg d];split at h
    ·rename_i b
     rw[if_pos b];split at h
     ·cases h
     ·rename_i f
      rw[if_neg f];obtain rfl:=Except.ok.inj h;exact⟨rfl,by show p+i+1<=a;omega⟩
    ·rename_i b
     rw[if_neg b];exact CX c p k (i+1) _ h
theorem CW(j:d<=s.size)(p:Nat):∀(k i u:Nat),bU s (d+p) k i u=match bU (s.extract d s.size) p k i u with | .ok r=>.ok (r.1,d+r.2) | .error e=>.error e
 | 0,_,_=>rfl
 | k+1,i,u=>by
  have h:(s.extract d s.size).size=s.size-d:=by simp
  by_cases g:s.size<=d+p+i
  ·have f:(s.extract d s.size).size<=p+i:=by rw[h];omega
   rw[bU,if_pos g,bU,if_pos f]
  ·have f:¬(s.extract d s.size).size<=p+i:=by rw[h];omega
   have e:bK (s.extract d s.size) (p+i)=bK s (d+p+i):=by rw[Ft (ύ _) (by omega),Nat.add_assoc]
   rw[bU,if_neg g,bU,if_neg f,e];by_cases a:i=9/\1<bK s (d+p+i)
   ·rw[if_pos a,if_pos a]
   ·rw[if_neg a,if_neg a];by_cases b:bK s (d+p+i)<128
    ·rw[if_pos b,if_pos b];by_cases c:bK s (d+p+i)=0/\0<i
     ·rw[if_pos c,if_pos c]
     ·rw[if_neg c,if_neg c];dsimp only;rw[show d+(p+i+1)=d+p+i+1 by omega]
    ·rw[if_neg b,if_neg b];exact CW j p k (i+1) _
theorem oD(s:ByteArray)(q:Nat):bR s (q:Int)=match bU s q 10 0 0 with | .error c=>.error c | .ok x=>if unf x.1<0\/8000<unf x.1 then .error 3 else if (s.size:Int)-(x.2:Int)<unf x.1 then .error 4 else .ok (s.extract x.2 (x.2+(unf x.1).toNat),x.2+(unf x.1).toNat):=by
 unfold bR dj;rw[if_neg (by omega),Int.toNat_natCast];cases bU s q 10 0 0<;>rfl
theorem Io{x:ByteArray}(f:a<=s.size)(h:dM (s.extract 0 a) q=ς (x,q2)):dM s q=ς (x,q2):=by
 have g:(s.extract 0 a).size=a:=by simp;omega
 unfold dM at h ⊢;rw[oD]at h;rw[oD];cases d:bU (s.extract 0 a) q 10 0 0 with
 | error c=>rw[d]at h;cases h
 | ok r=>
  rw[d]at h;obtain⟨e,n⟩:=CX f q 10 0 0 d;rw[e];dsimp only at h ⊢;split at h
  ·rename_i y b
   obtain rfl:=ό h;split at b
   ·cases b
   ·rename_i i
    rw[if_neg i];split at b
    ·cases b
    ·rename_i k
     rw[g]at k;rw[if_neg (by omega)];have:=Except.ok.inj b;obtain⟨rfl,rfl⟩:=Prod.mk.inj this;dsimp only;congr 2
     apply lC
     ·simp;omega
     ·intro j l;have m:j<(unf r.1).toNat:=by simp at l;omega
      rw[fa (by omega) (by omega),fa (by omega) (by rw[g];omega),Ft f (by omega),Nat.zero_add]
  ·cases h
theorem In(g:d<=s.size)(p:Nat):dM s (d+p)=match dM (s.extract d s.size) p with | none=>ν | some (x,q)=>ς (x,d+q):=by
 have e:(s.extract d s.size).size=s.size-d:=by simp
 unfold dM;rw[oD,oD,CW g p];cases k:bU (s.extract d s.size) p 10 0 0 with
 | error c=>rfl
 | ok r=>
  have b:r.2<=(s.extract d s.size).size:=by
   have:aT (s.extract d s.size) p=ς (unf r.1,r.2):=by unfold aT;rw[k]
   exact(bg this).2
  rw[e]at b;dsimp only;by_cases a:unf r.1<0\/8000<unf r.1
  ·rw[if_pos a,if_pos a]
  ·rw[if_neg a,if_neg a];rw[e];by_cases f:(s.size:Int)-((d+r.2:Nat):Int)<unf r.1
   ·rw[if_pos f,if_pos (by omega)]
   ·rw[if_neg f,if_neg (by omega)];dsimp only;congr 2
    ·apply lC
     ·simp;omega
     ·intro j h;have i:j<(unf r.1).toNat:=by simp at h;omega
      rw[fa (by omega) (by omega),fa (by omega) (by rw[e];omega),Ft (ύ _) (by omega),Nat.add_assoc]
    ·omega
theorem KN{t c:Tk}(d:a<=s.size)(h:eG (s.extract 0 a) t q=ς (c,q2)):eG s t q=ς (c,q2):=by
 unfold eG at h ⊢;cases b:dM (s.extract 0 a) q with
 | none=>rw[b]at h;cases h
 | some r=>
  rw[b]at h;rw[Io d b];exact h
theorem KM(a:d<=s.size)(t:Tk)(p:Nat):eG s t (d+p)=match eG (s.extract d s.size) t p with | none=>ν | some (t2,q)=>ς (t2,d+q):=by
 unfold eG;rw[In a];cases b:dM (s.extract d s.size) p with
 | none=>rfl
 | some r=>
  obtain⟨x,q⟩:=r;dsimp only;split<;>rfl
theorem lT{t t2:Tk}(u:s.size<=8000)(h:eG s t q=ς (t2,q2)):q+5<=q2/\q2<=s.size/\(aM t=θ->aM t2=θ):=by
 unfold eG at h;cases k:dM s q with
 | none=>rw[k]at h;cases h
 | some r=>
  obtain⟨x,y⟩:=r;rw[k]at h;dsimp only at h;split at h
  ·rename_i i
   have:=ό h;obtain⟨rfl,rfl⟩:=Prod.mk.inj this;have n:=wS u k
   have f:unC x=0:=by
    have g:=i.1;unfold dO at g;split at g
    ·rename_i f;exact f
    ·rename_i f;exact absurd g f
   have l:=(rl f).2.1;have o:=congrArg ByteArray.size n.1;have w:=aU (x.size:Int);have v:=(rl f).1;unfold eu at o;rw[if_neg (by omega),ByteArray.size_append,ByteArray.size_extract]at o;refine⟨by omega,n.2.2,fun j=>?_⟩;have b:=(uP i.1).1;have e:=i.2
   have c:∀S,eS t S=0->aM (cx t S)=θ:=fun S d=>by
    unfold eS at d;unfold cx;split at d
    ·cases d
    ·rename_i l
     rw[if_neg l];split at d
     ·rename_i p
      rw[if_pos p];split at d
      ·cases d
      ·rename_i m
       rw[if_neg m];exact vM j S m
     ·cases d
   rcases lR b with a | a | a | a
   ·rw[(mG b a).1];unfold fJ;rw[if_pos j];exact pq j
   ·rw[(li b a).2]at e;rw[(li b a).1];exact(vu e).2.2.2
   ·rw[(lj b a).2]at e;rw[(lj b a).1];exact c _ e
   ·rw[(lm b a).2]at e;rw[(lm b a).1];exact c _ e
  ·cases h
theorem vK(s:ByteArray):∀(n:Nat) (t:Tk) (q:Nat) (T:List ByteArray),dk s n t q T=((dk s n t q []).1,(dk s n t q []).2.1,T ++ (dk s n t q []).2.2)
 | 0,t,q,T=>by unfold dk;simp
 | n+1,t,q,T=>by
  cases h:eG s t q with
  | none=>rw[dG h,dG h];simp
  | some r=>
   obtain⟨a,b⟩:=r;rw[jl h,jl h,vK s n a b (T ++ [fY a]),vK s n a b ([] ++ [fY a])];simp
theorem yH(a:s.size<=8000):∀(n m:Nat) (t:Tk) (q:Nat) (T:List ByteArray),s.size<q+5*n->s.size<q+5*m->dk s n t q T=dk s m t q T
 | 0,m,t,q,T,hn,hm=>by
  cases h:eG s t q with
  | none=>rw[dG h,dG h]
  | some r=>
   have:=lT a (t2:=r.1) (q2:=r.2) h;omega
 | n+1,0,t,q,T,hn,hm=>by
  cases h:eG s t q with
  | none=>rw[dG h,dG h]
  | some r=>
   have:=lT a (t2:=r.1) (q2:=r.2) h;omega
 | n+1,m+1,t,q,T,hn,hm=>by
  cases h:eG s t q with
  | none=>rw[dG h,dG h]
  | some r=>
   have:=lT a (t2:=r.1) (q2:=r.2) h;obtain⟨t2,q2⟩:=r;rw[jl h,jl h];exact yH a n m t2 q2 _ (by dsimp only at this;omega) (by dsimp only at this;omega)
theorem Ck(a:d<=s.size):∀(n:Nat) (t:Tk) (p:Nat) (T:List ByteArray),dk s n t (d+p) T=((dk (s.extract d s.size) n t p T).1,d+(dk (s.extract d s.size) n t p T).2.1,(dk (s.extract d s.size) n t p T).2.2)
 | 0,t,p,T=>rfl
 | n+1,t,p,T=>by
  have e:=KM a t p;cases h:eG (s.extract d s.size) t p with
  | none=>rw[h]at e;rw[dG h,dG e]
  | some r=>
   obtain⟨c,b⟩:=r;rw[h]at e;rw[jl h,jl e];exact Ck a n c b _
theorem Cl(j:s.size<=8000)(c:a<=s.size):∀(n:Nat) (t:Tk) (q:Nat) (T:List ByteArray),∃m,m<=n/\q+5*(n-m)<=(dk (s.extract 0 a) n t q T).2.1/\((dk (s.extract 0 a) n t q T).2.1=q\/(dk (s.extract 0 a) n t q T).2.1<=a)/\(aM t=θ->aM (dk (s.extract 0 a) n t q T).1=θ)/\dk s n t q T=dk s m (dk (s.extract 0 a) n t q T).1 (dk (s.extract 0 a) n t q T).2.1 (dk (s.extract 0 a) n t q T).2.2
 | 0,t,q,T=>⟨0,ύ _,by show q+0<=q;omega,.inl rfl,fun h=>h,rfl⟩
 | n+1,t,q,T=>by
  have u:(s.extract 0 a).size=a:=by simp;omega
  cases h:eG (s.extract 0 a) t q with
  | none=>
   rw[dG h];exact⟨n+1,ύ _,by dsimp only;omega,.inl rfl,fun h=>h,rfl⟩
  | some r=>
   obtain⟨d,l⟩:=r;have e:=KN c h;have i:=lT (by omega) h;rw[jl h,jl e];obtain⟨m,o,p,b,f,g⟩:=Cl j c n d l (T ++ [fY d]);refine⟨m,by omega,by omega,?_,fun k=>f (i.2.2 k),g⟩;rcases b with b | b
   ·right
    omega
   ·exact .inr b
theorem En{t:Tk}(y:s.size<1995)(w:a<=s.size)(i:aM t=θ):
  ∃(c k:Tk) (b j:Nat) (d f:List ByteArray),eL (s.extract 0 a) t=((c,b,d),0)/\b<=s.size/\aM c=θ/\eL (s.extract b s.size) c=((k,j,f),0)/\eL s t=((k,b+j,d ++ f),0):=by
 obtain⟨m,x,o,p,h,l⟩:=Cl (s:=s) (by omega) w 400 t 0 [];obtain⟨⟨c,b,d⟩,u⟩:∃r,dk (s.extract 0 a) 400 t 0 []=r:=⟨_,rfl⟩
 rw[u]at o p h l;dsimp only at o p h l;have q:b<=s.size:=by omega
 obtain⟨⟨k,j,f⟩,e⟩:∃r,dk (s.extract b s.size) 400 c 0 []=r:=⟨_,rfl⟩
 have g:=Ck q 400 c 0 [];rw[e]at g;dsimp only at g;rw[Nat.add_zero]at g;have v:=yH (s:=s) (by omega) m 400 c b d (by omega) (by omega);have n:=vK s 400 c b d;rw[g]at n;refine⟨c,k,b,j,d,f,?_,q,h i,?_,?_⟩
 ·unfold eL;rw[if_neg (by simp;omega),if_pos i,u]
 ·unfold eL;rw[if_neg (by simp;omega),if_pos (h i),e]
 ·unfold eL;rw[if_neg (by omega),if_pos i,l,v,n]
end
theorem un(T:Array μ)(X:ω)(b:Nat)(v:μ)(lim d A B C D a e c:Int)(f:T.getD 4 undef=π (ς ⟨b,0,ν⟩))(h:TkO X b v lim d A B C D a e c):(results f68 T).run prog X=.ok (κ #[v,J Z lim,J Z d,J Z A,J Z B,J Z C,J Z D,J Z a,J Z e,J Z c]) X:=by
 obtain⟨⟨g,i,j,k,l,m,n,o,p⟩,q⟩:=h;simp only[Array.getD_eq_getD_getElem?]at f;simp[results,results68,go_sem,f,g,i,j,k,l,m,n,o,p,q]
theorem JO(L:List St)(lim b A B C D a g:Int)(i:Option η)(c:Nat)(S:List D3)(g1 g2 g3 g4 wd ht lv fo:Int)(px:ByteArray)(F:Option η)(X:Nat)(p:η)(w:ω)(hn:L.length<=1048576)(hS:aO w i L L.length)(hb:∀y,i=ς y->y.block<w.1.size)(af:S.length<=1048576)(ab:S.length<=X)(aa:X<=9223372036854775807)(hD:bu w F S S.length)(Y:∀y,F=ς y->y.block<w.1.size)(n:L.length<=c)(M:c<=9223372036854775807)(hE:bQ p w)(hs:px.size<=maxLen):
  χ prog 68 #[κ #[σ i L.length c,J Z lim,J Z b,J Z A,J Z B,J Z C,J Z D,J Z a,J Z g],.iface 114 (κ #[])] w fun e w'=>jy w' w.1.size (fJ ⟨L,lim,b,A,B,C,D,a,g⟩) (gv ⟨L,lim,b,A,B,C,D,a,g⟩) e/\δ w.1.size w w':=by
 have Q:=yz (aJ w (ξ #[σ i L.length c,J Z lim,J Z b,J Z A,J Z B,J Z C,J Z D,J Z a,J Z g] 38) (ξ #[σ ν 0 0,J Z 0,J Z 0,J Z 0,J Z 0,J Z 0,J Z 0,J Z 0,J Z 0,J Z 0] 52));have O:=yz ((aq w [σ i L.length c,J Z lim,J Z b,J Z A,J Z B,J Z C,J Z D,J Z a,J Z g] 38).alloc (ξ #[σ ν 0 0,J Z 0,J Z 0,J Z 0,J Z 0,J Z 0,J Z 0,J Z 0,J Z 0,J Z 0] 52));have R:=yz (by simpa using aq (w.alloc (ξ #[σ i L.length c,J Z lim,J Z b,J Z A,J Z B,J Z C,J Z D,J Z a,J Z g] 38)) [σ ν 0 0,J Z 0,J Z 0,J Z 0,J Z 0,J Z 0,J Z 0,J Z 0,J Z 0,J Z 0] 52:Blk ((w.alloc (ξ #[σ i L.length c,J Z lim,J Z b,J Z A,J Z B,J Z C,J Z D,J Z a,J Z g] 38)).alloc (ξ #[σ ν 0 0,J Z 0,J Z 0,J Z 0,J Z 0,J Z 0,J Z 0,J Z 0,J Z 0,J Z 0] 52)) (w.1.size+1) [σ ν 0 0,J Z 0,J Z 0,J Z 0,J Z 0,J Z 0,J Z 0,J Z 0,J Z 0,J Z 0] 52);have ac:w.1.size+1+1<=((w.alloc (ξ #[σ i L.length c,J Z lim,J Z b,J Z A,J Z B,J Z C,J Z D,J Z a,J Z g] 38)).alloc (ξ #[σ ν 0 0,J Z 0,J Z 0,J Z 0,J Z 0,J Z 0,J Z 0,J Z 0,J Z 0,J Z 0] 52)).1.size:=by simp
 have K:∀W:ω,δ w.1.size w W->∀y,i=ς y->y.block<W.1.size:=fun W h y e=>Ϗ (hb y e) h.size;have H:∀W:ω,δ w.1.size w W->∀y,F=ς y->y.block<W.1.size:=fun W h y e=>Ϗ (Y y e) h.size;have G:=yz (fun (W:ω) (h:δ w.1.size w W)=>xr L lim b A B C D a g i c p W hn n M (hE.kept h) (hS.kept h));obtain⟨t2,q⟩:∃z,fJ ⟨L,lim,b,A,B,C,D,a,g⟩=z:=⟨_,rfl⟩
 obtain⟨j,o⟩:∃z,gv ⟨L,lim,b,A,B,C,D,a,g⟩=z:=⟨_,rfl⟩
 rw[q,o]at G ⊢;obtain⟨L2,k,f,r,t,u,x,d,l⟩:=t2;clear q o hS hD hb Y K H hE;have m:=an ((w.alloc (ξ #[σ i L.length c,J Z lim,J Z b,J Z A,J Z B,J Z C,J Z D,J Z a,J Z g] 38)).alloc (ξ #[σ ν 0 0,J Z 0,J Z 0,J Z 0,J Z 0,J Z 0,J Z 0,J Z 0,J Z 0,J Z 0] 52)) (ξ #[] 114);have s:=aB Q m;have P:=ap O m;have T:=ap R m;have ae:=m.size;have ag:∀W:ω,(Instr.typeAssert (.iface 114 (κ #[])) 63 114 θ).run prog W=.ok (.tuple #[κ #[],β θ]) W:=fun _=>by kernel_rfl
 clear m Q O R;go_enter func68,ntmps68;have q0:=bO (yx P)
 go_wp2_with fail;clear q0;refine(yx G _ (yx s)).mono ?_;rintro e w3 ⟨⟨U,V,rfl,I⟩,N⟩;dsimp only at I;have C5:=yz (I.low (B':=w.1.size+1+1) (by omega));have E:=ap T N;have B5:=aB s N;clear N I T s P G;have r0:=ck (yx E);have e0:=dU (yx E);go_wp2_with fail;clear r0 e0;refine ϋ (v:=κ #[σ U L2.length V,J Z k,J Z f,J Z r,J Z t,J Z u,J Z x,J Z d,J Z l,J Z j]) ?_ rfl ⟨?_,?_⟩
 ·exact un _ _ (w.1.size+1) _ k f r t u x d l j rfl (bJ (aZ (yx E) rfl _ k f r t u x d l j))
 ·refine⟨U,V,rfl,?_⟩;refine ax.low (B:=w.1.size+1+1) ?_ (by omega);iterate 10 (refine ax.far ?_ (ϐ (w.1.size+1)) _ _)
  exact yx C5
 ·iterate 10 (refine aF ?_ (Nat.le_succ _) _ _)
  exact yx B5
theorem JP(L:List St)(lim b A B C D a g:Int)(i:Option η)(c:Nat)(S:List D3)(j k l m wd ht lv fo:Int)(px:ByteArray)(K:Option η)(dr:Nat)(p:η)(w:ω)(hn:L.length<=1048576)(hS:aO w i L L.length)(hb:∀y,i=ς y->y.block<w.1.size)(af:S.length<=1048576)(ab:S.length<=dr)(aa:dr<=9223372036854775807)(hD:bu w K S S.length)(hB:∀y,K=ς y->y.block<w.1.size)(s:L.length<=c)(Q:c<=9223372036854775807)(hE:bQ p w)(hs:px.size<=maxLen):
  χ prog 68 #[κ #[σ i L.length c,J Z lim,J Z b,J Z A,J Z B,J Z C,J Z D,J Z a,J Z g],.iface 117 (κ #[J Z j,J Z k,J Z l,J Z m])] w fun e w'=>jy w' w.1.size (fy ⟨L,lim,b,A,B,C,D,a,g⟩ j k l m) (iL ⟨L,lim,b,A,B,C,D,a,g⟩ j k l m) e/\δ w.1.size w w':=by
 have V:=yz (aJ w (ξ #[σ i L.length c,J Z lim,J Z b,J Z A,J Z B,J Z C,J Z D,J Z a,J Z g] 38) (ξ #[σ ν 0 0,J Z 0,J Z 0,J Z 0,J Z 0,J Z 0,J Z 0,J Z 0,J Z 0,J Z 0] 52));have T:=yz ((aq w [σ i L.length c,J Z lim,J Z b,J Z A,J Z B,J Z C,J Z D,J Z a,J Z g] 38).alloc (ξ #[σ ν 0 0,J Z 0,J Z 0,J Z 0,J Z 0,J Z 0,J Z 0,J Z 0,J Z 0,J Z 0] 52));have X:=yz (by simpa using aq (w.alloc (ξ #[σ i L.length c,J Z lim,J Z b,J Z A,J Z B,J Z C,J Z D,J Z a,J Z g] 38)) [σ ν 0 0,J Z 0,J Z 0,J Z 0,J Z 0,J Z 0,J Z 0,J Z 0,J Z 0,J Z 0] 52:Blk ((w.alloc (ξ #[σ i L.length c,J Z lim,J Z b,J Z A,J Z B,J Z C,J Z D,J Z a,J Z g] 38)).alloc (ξ #[σ ν 0 0,J Z 0,J Z 0,J Z 0,J Z 0,J Z 0,J Z 0,J Z 0,J Z 0,J Z 0] 52)) (w.1.size+1) [σ ν 0 0,J Z 0,J Z 0,J Z 0,J Z 0,J Z 0,J Z 0,J Z 0,J Z 0,J Z 0] 52);have ac:w.1.size+1+1<=((w.alloc (ξ #[σ i L.length c,J Z lim,J Z b,J Z A,J Z B,J Z C,J Z D,J Z a,J Z g] 38)).alloc (ξ #[σ ν 0 0,J Z 0,J Z 0,J Z 0,J Z 0,J Z 0,J Z 0,J Z 0,J Z 0,J Z 0] 52)).1.size:=by simp
 have P:∀W:ω,δ w.1.size w W->∀y,i=ς y->y.block<W.1.size:=fun W h y e=>Ϗ (hb y e) h.size;have N:∀W:ω,δ w.1.size w W->∀y,K=ς y->y.block<W.1.size:=fun W h y e=>Ϗ (hB y e) h.size;have M:=yz (fun (W:ω) (h:δ w.1.size w W)=>zX L lim b A B C D a g j k l m i c p W hn s Q (hE.kept h) (hS.kept h));obtain⟨t2,u⟩:∃z,fy ⟨L,lim,b,A,B,C,D,a,g⟩ j k l m=z:=⟨_,rfl⟩
 obtain⟨n,t⟩:∃z,iL ⟨L,lim,b,A,B,C,D,a,g⟩ j k l m=z:=⟨_,rfl⟩
 rw[u,t]at M ⊢;obtain⟨L2,o,f,x,F,G,H,d,q⟩:=t2;clear u t hS hD hb hB P N hE;have r:=an ((w.alloc (ξ #[σ i L.length c,J Z lim,J Z b,J Z A,J Z B,J Z C,J Z D,J Z a,J Z g] 38)).alloc (ξ #[σ ν 0 0,J Z 0,J Z 0,J Z 0,J Z 0,J Z 0,J Z 0,J Z 0,J Z 0,J Z 0] 52)) (ξ #[J Z j,J Z k,J Z l,J Z m] 117);have E:=aB V r;have U:=ap T r;have Y:=ap X r;have ae:=r.size;have N1:=yz (by simpa using aq ((w.alloc (ξ #[σ i L.length c,J Z lim,J Z b,J Z A,J Z B,J Z C,J Z D,J Z a,J Z g] 38)).alloc (ξ #[σ ν 0 0,J Z 0,J Z 0,J Z 0,J Z 0,J Z 0,J Z 0,J Z 0,J Z 0,J Z 0] 52)) [J Z j,J Z k,J Z l,J Z m] 117:Blk (((w.alloc (ξ #[σ i L.length c,J Z lim,J Z b,J Z A,J Z B,J Z C,J Z D,J Z a,J Z g] 38)).alloc (ξ #[σ ν 0 0,J Z 0,J Z 0,J Z 0,J Z 0,J Z 0,J Z 0,J Z 0,J Z 0,J Z 0] 52)).alloc (ξ #[J Z j,J Z k,J Z l,J Z m] 117)) (w.1.size+1+1) [J Z j,J Z k,J Z l,J Z m] 117);have ag:∀W:ω,(Instr.typeAssert (.iface 117 (κ #[J Z j,J Z k,J Z l,J Z m])) 63 114 θ).run prog W=.ok (.tuple #[κ #[],β φ]) W:=fun _=>by kernel_rfl
 have ah:∀W:ω,(Instr.typeAssert (.iface 117 (κ #[J Z j,J Z k,J Z l,J Z m])) 63 117 θ).run prog W=.ok (.tuple #[κ #[J Z j,J Z k,J Z l,J Z m],β θ]) W:=fun _=>by kernel_rfl
 clear r V T X;go_enter func68,ntmps68;have q0:=bO (yx U);have n0:=zw (yx N1);go_wp2_with fail;clear q0 n0;refine(yx M _ (yx E)).mono ?_;rintro e w3 ⟨⟨a2,c2,rfl,O⟩,R⟩;dsimp only at O;have C5:=yz (O.low (B':=w.1.size+1+1) (by omega));have I:=ap Y R;have B5:=aB E R;clear R O Y E U M;have r0:=ck (yx I);have e0:=dU (yx I);go_wp2_with fail;clear r0 e0;refine ϋ (v:=κ #[σ a2 L2.length c2,J Z o,J Z f,J Z x,J Z F,J Z G,J Z H,J Z d,J Z q,J Z n]) ?_ rfl ⟨?_,?_⟩
 ·exact un _ _ (w.1.size+1) _ o f x F G H d q n rfl (bJ (aZ (yx I) rfl _ o f x F G H d q n))
 ·refine⟨a2,c2,rfl,?_⟩;refine ax.low (B:=w.1.size+1+1) ?_ (by omega);iterate 10 (refine ax.far ?_ (ϐ (w.1.size+1)) _ _)
  exact yx C5
 ·iterate 10 (refine aF ?_ (Nat.le_succ _) _ _)
  exact yx B5
theorem JQ(L:List St)(lim b A B C D a g:Int)(i:Option η)(c:Nat)(S:List D3)(g1 g2 g3 g4 wd ht lv fo:Int)(px:ByteArray)(j:Option η)(k:Nat)(p:η)(w:ω)(hn:L.length<=1048576)(hS:aO w i L L.length)(hb:∀y,i=ς y->y.block<w.1.size)(Q:S.length<=1048576)(P:S.length<=k)(O:k<=9223372036854775807)(hD:bu w j S S.length)(hB:∀y,j=ς y->y.block<w.1.size)(s:L.length<=c)(N:c<=9223372036854775807)(hE:bQ p w)(hs:px.size<=maxLen):
  χ prog 68 #[κ #[σ i L.length c,J Z lim,J Z b,J Z A,J Z B,J Z C,J Z D,J Z a,J Z g],.iface 119 (κ #[σ j S.length k])] w fun e w'=>jy w' w.1.size (cx ⟨L,lim,b,A,B,C,D,a,g⟩ S) (eS ⟨L,lim,b,A,B,C,D,a,g⟩ S) e/\δ w.1.size w w':=by
 have V:=yz (aJ w (ξ #[σ i L.length c,J Z lim,J Z b,J Z A,J Z B,J Z C,J Z D,J Z a,J Z g] 38) (ξ #[σ ν 0 0,J Z 0,J Z 0,J Z 0,J Z 0,J Z 0,J Z 0,J Z 0,J Z 0,J Z 0] 52));have T:=yz ((aq w [σ i L.length c,J Z lim,J Z b,J Z A,J Z B,J Z C,J Z D,J Z a,J Z g] 38).alloc (ξ #[σ ν 0 0,J Z 0,J Z 0,J Z 0,J Z 0,J Z 0,J Z 0,J Z 0,J Z 0,J Z 0] 52));have X:=yz (by simpa using aq (w.alloc (ξ #[σ i L.length c,J Z lim,J Z b,J Z A,J Z B,J Z C,J Z D,J Z a,J Z g] 38)) [σ ν 0 0,J Z 0,J Z 0,J Z 0,J Z 0,J Z 0,J Z 0,J Z 0,J Z 0,J Z 0] 52:Blk ((w.alloc (ξ #[σ i L.length c,J Z lim,J Z b,J Z A,J Z B,J Z C,J Z D,J Z a,J Z g] 38)).alloc (ξ #[σ ν 0 0,J Z 0,J Z 0,J Z 0,J Z 0,J Z 0,J Z 0,J Z 0,J Z 0,J Z 0] 52)) (w.1.size+1) [σ ν 0 0,J Z 0,J Z 0,J Z 0,J Z 0,J Z 0,J Z 0,J Z 0,J Z 0,J Z 0] 52);have aa:w.1.size+1+1<=((w.alloc (ξ #[σ i L.length c,J Z lim,J Z b,J Z A,J Z B,J Z C,J Z D,J Z a,J Z g] 38)).alloc (ξ #[σ ν 0 0,J Z 0,J Z 0,J Z 0,J Z 0,J Z 0,J Z 0,J Z 0,J Z 0,J Z 0] 52)).1.size:=by simp
 have r:∀W:ω,δ w.1.size w W->∀y,i=ς y->y.block<W.1.size:=fun W h y e=>Ϗ (hb y e) h.size;have q:∀W:ω,δ w.1.size w W->∀y,j=ς y->y.block<W.1.size:=fun W h y e=>Ϗ (hB y e) h.size;have K:=yz (fun (W:ω) (h:δ w.1.size w W)=>qs L S lim b A B C D a g i c j k p W hn Q (hS.kept h) (hD.kept h) (r W h) (q W h) s N P O (hE.kept h));obtain⟨t2,u⟩:∃z,cx ⟨L,lim,b,A,B,C,D,a,g⟩ S=z:=⟨_,rfl⟩
 obtain⟨l,t⟩:∃z,eS ⟨L,lim,b,A,B,C,D,a,g⟩ S=z:=⟨_,rfl⟩
 rw[u,t]at K ⊢;obtain⟨L2,m,f,x,F,G,H,d,n⟩:=t2;clear u t hS hD hb hB r q hE;have o:=an ((w.alloc (ξ #[σ i L.length c,J Z lim,J Z b,J Z A,J Z B,J Z C,J Z D,J Z a,J Z g] 38)).alloc (ξ #[σ ν 0 0,J Z 0,J Z 0,J Z 0,J Z 0,J Z 0,J Z 0,J Z 0,J Z 0,J Z 0] 52)) (ξ #[σ j S.length k] 119);have E:=aB V o;have U:=ap T o;have Y:=ap X o;have ab:=o.size;have N1:=yz (by simpa using aq ((w.alloc (ξ #[σ i L.length c,J Z lim,J Z b,J Z A,J Z B,J Z C,J Z D,J Z a,J Z g] 38)).alloc (ξ #[σ ν 0 0,J Z 0,J Z 0,J Z 0,J Z 0,J Z 0,J Z 0,J Z 0,J Z 0,J Z 0] 52)) [σ j S.length k] 119:Blk (((w.alloc (ξ #[σ i L.length c,J Z lim,J Z b,J Z A,J Z B,J Z C,J Z D,J Z a,J Z g] 38)).alloc (ξ #[σ ν 0 0,J Z 0,J Z 0,J Z 0,J Z 0,J Z 0,J Z 0,J Z 0,J Z 0,J Z 0] 52)).alloc (ξ #[σ j S.length k] 119)) (w.1.size+1+1) [σ j S.length k] 119);have ac:∀W:ω,(Instr.typeAssert (.iface 119 (κ #[σ j S.length k])) 63 114 θ).run prog W=.ok (.tuple #[κ #[],β φ]) W:=fun _=>by kernel_rfl
 have ae:∀W:ω,(Instr.typeAssert (.iface 119 (κ #[σ j S.length k])) 63 117 θ).run prog W=.ok (.tuple #[κ #[J Z 0,J Z 0,J Z 0,J Z 0],β φ]) W:=fun _=>by kernel_rfl
 have af:∀W:ω,(Instr.typeAssert (.iface 119 (κ #[σ j S.length k])) 63 119 θ).run prog W=.ok (.tuple #[κ #[σ j S.length k],β θ]) W:=fun _=>by kernel_rfl
 clear o V T X;go_enter func68,ntmps68;have q0:=bO (yx U);have n0:=(yx N1).cell 0 _ rfl;go_wp2_with fail;clear q0 n0;refine(yx K _ (yx E)).mono ?_;rintro e w3 ⟨⟨a2,c2,rfl,M⟩,R⟩;dsimp only at M;have C5:=yz (M.low (B':=w.1.size+1+1) (by omega));have I:=ap Y R;have B5:=aB E R;clear R M Y E U K;have r0:=ck (yx I);have e0:=dU (yx I);go_wp2_with fail;clear r0 e0;refine ϋ (v:=κ #[σ a2 L2.length c2,J Z m,J Z f,J Z x,J Z F,J Z G,J Z H,J Z d,J Z n,J Z l]) ?_ rfl ⟨?_,?_⟩
 ·exact un _ _ (w.1.size+1) _ m f x F G H d n l rfl (bJ (aZ (yx I) rfl _ m f x F G H d n l))
 ·refine⟨a2,c2,rfl,?_⟩;refine ax.low (B:=w.1.size+1+1) ?_ (by omega);iterate 10 (refine ax.far ?_ (ϐ (w.1.size+1)) _ _)
  exact yx C5
 ·iterate 10 (refine aF ?_ (Nat.le_succ _) _ _)
  exact yx B5
theorem JR(L:List St)(lim b A B C D a o:Int)(s:Option η)(c:Nat)(S:List D3)(g1 g2 g3 g4 l i j g:Int)(f:ByteArray)(br:Option η)(dr:Nat)(p:η)(w:ω)(hn:L.length<=1048576)(hS:aO w s L L.length)(hb:∀y,s=ς y->y.block<w.1.size)(az:S.length<=1048576)(av:S.length<=dr)(au:dr<=9223372036854775807)(hD:bu w br S S.length)(hB:∀y,br=ς y->y.block<w.1.size)(ae:L.length<=c)(al:c<=9223372036854775807)(hE:bQ p w)(hs:f.size<=maxLen):
  χ prog 68 #[κ #[σ s L.length c,J Z lim,J Z b,J Z A,J Z B,J Z C,J Z D,J Z a,J Z o],.iface 121 (κ #[J Z l,J Z i,τ f,J Z j,J Z g])] w fun e r=>jy r w.1.size (cx ⟨L,lim,b,A,B,C,D,a,o⟩ (iK (bq l i f j g))) (eS ⟨L,lim,b,A,B,C,D,a,o⟩ (iK (bq l i f j g))) e/\δ w.1.size w r:=by
 have B0:=yz (aJ w (ξ #[σ s L.length c,J Z lim,J Z b,J Z A,J Z B,J Z C,J Z D,J Z a,J Z o] 38) (ξ #[σ ν 0 0,J Z 0,J Z 0,J Z 0,J Z 0,J Z 0,J Z 0,J Z 0,J Z 0,J Z 0] 52));have A0:=yz ((aq w [σ s L.length c,J Z lim,J Z b,J Z A,J Z B,J Z C,J Z D,J Z a,J Z o] 38).alloc (ξ #[σ ν 0 0,J Z 0,J Z 0,J Z 0,J Z 0,J Z 0,J Z 0,J Z 0,J Z 0,J Z 0] 52));have R0:=yz (by simpa using aq (w.alloc (ξ #[σ s L.length c,J Z lim,J Z b,J Z A,J Z B,J Z C,J Z D,J Z a,J Z o] 38)) [σ ν 0 0,J Z 0,J Z 0,J Z 0,J Z 0,J Z 0,J Z 0,J Z 0,J Z 0,J Z 0] 52:Blk ((w.alloc (ξ #[σ s L.length c,J Z lim,J Z b,J Z A,J Z B,J Z C,J Z D,J Z a,J Z o] 38)).alloc (ξ #[σ ν 0 0,J Z 0,J Z 0,J Z 0,J Z 0,J Z 0,J Z 0,J Z 0,J Z 0,J Z 0] 52)) (w.1.size+1) [σ ν 0 0,J Z 0,J Z 0,J Z 0,J Z 0,J Z 0,J Z 0,J Z 0,J Z 0,J Z 0] 52);have ag:w.1.size+1+1<=((w.alloc (ξ #[σ s L.length c,J Z lim,J Z b,J Z A,J Z B,J Z C,J Z D,J Z a,J Z o] 38)).alloc (ξ #[σ ν 0 0,J Z 0,J Z 0,J Z 0,J Z 0,J Z 0,J Z 0,J Z 0,J Z 0,J Z 0] 52)).1.size:=by simp
 have ab:∀W:ω,δ w.1.size w W->∀y,s=ς y->y.block<W.1.size:=fun W h y e=>Ϗ (hb y e) h.size;have aj:∀W:ω,δ w.1.size w W->∀y,br=ς y->y.block<W.1.size:=fun W h y e=>Ϗ (hB y e) h.size;have ak:=rD (bq l i f j g);have cP:=yz (fun W=>vl l i f j g W hs);have cK:=yz (fun (W:ω) (h:δ w.1.size w W) (x:Option η) (k:Nat) (hk:(iK (bq l i f j g)).length<=k) (ao:k<=9223372036854775807) (hd:bu W x (iK (bq l i f j g)) (iK (bq l i f j g)).length) (u:∀y,x=ς y->y.block<W.1.size)=>qs L (iK (bq l i f j g)) lim b A B C D a o s c x k p W hn (by omega) (hS.kept h) hd (ab W h) u ae al hk ao (hE.kept h));obtain⟨t2,ai⟩:∃z,cx ⟨L,lim,b,A,B,C,D,a,o⟩ (iK (bq l i f j g))=z:=⟨_,rfl⟩
 obtain⟨n,af⟩:∃z,eS ⟨L,lim,b,A,B,C,D,a,o⟩ (iK (bq l i f j g))=z:=⟨_,rfl⟩
 rw[ai,af]at cK ⊢;obtain⟨L2,q,m,A2,B2,C2,D2,d,F⟩:=t2;clear ai af hS hD hb hB ab aj hE;generalize iK (bq l i f j g)=fS at cP cK ak;have Z1:=an ((w.alloc (ξ #[σ s L.length c,J Z lim,J Z b,J Z A,J Z B,J Z C,J Z D,J Z a,J Z o] 38)).alloc (ξ #[σ ν 0 0,J Z 0,J Z 0,J Z 0,J Z 0,J Z 0,J Z 0,J Z 0,J Z 0,J Z 0] 52)) (ξ #[J Z l,J Z i,τ f,J Z j,J Z g] 121);have B1:=aB B0 Z1;have E:=ap A0 Z1;have R1:=ap R0 Z1;have ah:=Z1.size;have T:=yz (by simpa using aq ((w.alloc (ξ #[σ s L.length c,J Z lim,J Z b,J Z A,J Z B,J Z C,J Z D,J Z a,J Z o] 38)).alloc (ξ #[σ ν 0 0,J Z 0,J Z 0,J Z 0,J Z 0,J Z 0,J Z 0,J Z 0,J Z 0,J Z 0] 52)) [J Z l,J Z i,τ f,J Z j,J Z g] 121:Blk (((w.alloc (ξ #[σ s L.length c,J Z lim,J Z b,J Z A,J Z B,J Z C,J Z D,J Z a,J Z o] 38)).alloc (ξ #[σ ν 0 0,J Z 0,J Z 0,J Z 0,J Z 0,J Z 0,J Z 0,J Z 0,J Z 0,J Z 0] 52)).alloc (ξ #[J Z l,J Z i,τ f,J Z j,J Z g] 121)) (w.1.size+1+1) [J Z l,J Z i,τ f,J Z j,J Z g] 121);have aA:∀W:ω,(Instr.typeAssert (.iface 121 (κ #[J Z l,J Z i,τ f,J Z j,J Z g])) 63 114 θ).run prog W=.ok (.tuple #[κ #[],β φ]) W:=fun _=>by kernel_rfl
 have aC:∀W:ω,(Instr.typeAssert (.iface 121 (κ #[J Z l,J Z i,τ f,J Z j,J Z g])) 63 117 θ).run prog W=.ok (.tuple #[κ #[J Z 0,J Z 0,J Z 0,J Z 0],β φ]) W:=fun _=>by kernel_rfl
 have aD:∀W:ω,(Instr.typeAssert (.iface 121 (κ #[J Z l,J Z i,τ f,J Z j,J Z g])) 63 119 θ).run prog W=.ok (.tuple #[κ #[σ ν 0 0],β φ]) W:=fun _=>by kernel_rfl
 have aE:∀W:ω,(Instr.typeAssert (.iface 121 (κ #[J Z l,J Z i,τ f,J Z j,J Z g])) 63 121 θ).run prog W=.ok (.tuple #[κ #[J Z l,J Z i,τ f,J Z j,J Z g],β θ]) W:=fun _=>by kernel_rfl
 clear Z1 B0 A0 R0;go_enter func68,ntmps68;go_wp2;refine wp_region_held_drew (S:=(fun r=>r.cell? ⟨w.1.size,0,ν⟩=ς (σ s L.length c)/\r.cell? ⟨w.1.size,1,ν⟩=ς (J Z lim)/\r.cell? ⟨w.1.size,2,ν⟩=ς (J Z b)/\r.cell? ⟨w.1.size,3,ν⟩=ς (J Z A)/\r.cell? ⟨w.1.size,4,ν⟩=ς (J Z B)/\r.cell? ⟨w.1.size,5,ν⟩=ς (J Z C)/\r.cell? ⟨w.1.size,6,ν⟩=ς (J Z D)/\r.cell? ⟨w.1.size,7,ν⟩=ς (J Z a)/\r.cell? ⟨w.1.size,8,ν⟩=ς (J Z o)/\r.cell? ⟨w.1.size+1+1,0,ν⟩=ς (J Z l)/\r.cell? ⟨w.1.size+1+1,1,ν⟩=ς (J Z i)/\r.cell? ⟨w.1.size+1+1,2,ν⟩=ς (τ f)/\r.cell? ⟨w.1.size+1+1,3,ν⟩=ς (J Z j)/\r.cell? ⟨w.1.size+1+1,4,ν⟩=ς (J Z g) )) (by kernel_rfl) ?_ (fun G=>?_)
 ·exact⟨(yx E).cell 0 _ rfl,(yx E).cell 1 _ rfl,(yx E).cell 2 _ rfl,(yx E).cell 3 _ rfl,(yx E).cell 4 _ rfl,(yx E).cell 5 _ rfl,(yx E).cell 6 _ rfl,(yx E).cell 7 _ rfl,(yx E).cell 8 _ rfl,(yx T).cell 0 _ rfl,(yx T).cell 1 _ rfl,(yx T).cell 2 _ rfl,(yx T).cell 3 _ rfl,(yx T).cell 4 _ rfl⟩
 refine tkO 0 rfl ?_;refine tkO 1 rfl ?_;have Bd:=yz ((yx B1).drew);have Ad:=yz ((yx E).drewn);have Nd:=yz ((yx T).drewn);have Rd:=yz ((yx R1).drewn);have ar:w.1.size+1+1<=(World.drew (((w.alloc (ξ #[σ s L.length c,J Z lim,J Z b,J Z A,J Z B,J Z C,J Z D,J Z a,J Z o] 38)).alloc (ξ #[σ ν 0 0,J Z 0,J Z 0,J Z 0,J Z 0,J Z 0,J Z 0,J Z 0,J Z 0,J Z 0] 52)).alloc (ξ #[J Z l,J Z i,τ f,J Z j,J Z g] 121))).1.size:=ώ ag ah;generalize World.drew (((w.alloc (ξ #[σ s L.length c,J Z lim,J Z b,J Z A,J Z B,J Z C,J Z D,J Z a,J Z o] 38)).alloc (ξ #[σ ν 0 0,J Z 0,J Z 0,J Z 0,J Z 0,J Z 0,J Z 0,J Z 0,J Z 0,J Z 0] 52)).alloc (ξ #[J Z l,J Z i,τ f,J Z j,J Z g] 121))=V at Bd Ad Nd Rd ar G ⊢;clear B1 E T R1 ag ah;refine rd1 2 rfl fun K Q=>?_;go_simp;refine(yx cP _).mono ?_;rintro e v2 ⟨⟨x2,rfl,ho⟩,u⟩;obtain⟨a3,c3,rfl⟩:=cy ho;have R:=aB Bd u;have A2':=ap Ad u;have t:=ap Nd u;have aa:=ap Rd u;have ay:maxLen<=9223372036854775807:=by decide +kernel
 have U:=jT ho;have P:=yz U.1;have am:∀y,a3=ς y->y.block<v2.1.size:=fun y e=>(uj ho y e).2;have ac:fS.length<=c3/\c3<=9223372036854775807:=by rcases U.2 with h | h<;>omega
 have aw:=u.size;clear u ho U Bd Ad Nd Rd cP;refine Q.out _ _ ⟨(yx A2').cell 0 _ rfl,(yx A2').cell 1 _ rfl,(yx A2').cell 2 _ rfl,(yx A2').cell 3 _ rfl,(yx A2').cell 4 _ rfl,(yx A2').cell 5 _ rfl,(yx A2').cell 6 _ rfl,(yx A2').cell 7 _ rfl,(yx A2').cell 8 _ rfl,(yx t).cell 0 _ rfl,(yx t).cell 1 _ rfl,(yx t).cell 2 _ rfl,(yx t).cell 3 _ rfl,(yx t).cell 4 _ rfl⟩ (fun M=>?_);clear Q K G;refine rd1 3 rfl fun K Q=>?_;go_simp;refine(yx cK _ (yx R) a3 c3 ac.1 ac.2 (yx P) am).mono ?_;rintro e w3 ⟨⟨a2,c2,rfl,hC⟩,u⟩;dsimp only at hC;have C5:=yz (hC.low (B':=w.1.size+1+1) (by omega));have R5:=ap aa u;have H:=ap A2' u;have X:=ap t u;have B5:=aB R u;clear u hC aa R A2' t cK P;refine Q.out _ _ ⟨(yx H).cell 0 _ rfl,(yx H).cell 1 _ rfl,(yx H).cell 2 _ rfl,(yx H).cell 3 _ rfl,(yx H).cell 4 _ rfl,(yx H).cell 5 _ rfl,(yx H).cell 6 _ rfl,(yx H).cell 7 _ rfl,(yx H).cell 8 _ rfl,(yx X).cell 0 _ rfl,(yx X).cell 1 _ rfl,(yx X).cell 2 _ rfl,(yx X).cell 3 _ rfl,(yx X).cell 4 _ rfl⟩ (fun N=>?_);clear Q K M;refine rd1 4 rfl fun K Q=>?_;have r0:=ck (yx R5);have e0:=dU (yx R5);go_simp;clear r0 e0;have I:=yz (jS (yx H) (show w.1.size≠w.1.size+1 by omega) (σ a2 L2.length c2) (J Z q) (J Z m) (J Z A2) (J Z B2) (J Z C2) (J Z D2) (J Z d) (J Z F) (J Z n));have Y:=yz (jS (yx X) (show w.1.size+1+1≠w.1.size+1 by omega) (σ a2 L2.length c2) (J Z q) (J Z m) (J Z A2) (J Z B2) (J Z C2) (J Z D2) (J Z d) (J Z F) (J Z n));refine Q.out _ _ ⟨(yx I).cell 0 _ rfl,(yx I).cell 1 _ rfl,(yx I).cell 2 _ rfl,(yx I).cell 3 _ rfl,(yx I).cell 4 _ rfl,(yx I).cell 5 _ rfl,(yx I).cell 6 _ rfl,(yx I).cell 7 _ rfl,(yx I).cell 8 _ rfl,(yx Y).cell 0 _ rfl,(yx Y).cell 1 _ rfl,(yx Y).cell 2 _ rfl,(yx Y).cell 3 _ rfl,(yx Y).cell 4 _ rfl⟩ (fun O=>?_);clear Q K N I Y;refine rdn ?_;clear O;go_wp2_with fail;refine ϋ (v:=κ #[σ a2 L2.length c2,J Z q,J Z m,J Z A2,J Z B2,J Z C2,J Z D2,J Z d,J Z F,J Z n]) ?_ rfl ⟨?_,?_⟩
 ·exact un _ _ (w.1.size+1) _ q m A2 B2 C2 D2 d F n rfl (bJ (aZ (yx R5) rfl _ q m A2 B2 C2 D2 d F n))
 ·refine⟨a2,c2,rfl,?_⟩;refine ax.low (B:=w.1.size+1+1) ?_ (by omega);iterate 10 (refine ax.far ?_ (ϐ (w.1.size+1)) _ _)
  exact yx C5
 ·iterate 10 (refine aF ?_ (Nat.le_succ _) _ _)
  exact yx B5
theorem yV(T:Array μ)(X:ω)(b:Nat)(v:μ)(lim d A B C D a e c:Int)(f:T.getD 4 undef=π (ς ⟨b,0,ν⟩))(h:TkO X b v lim d A B C D a e c):(results f19 T).run prog X=.ok (κ #[v,J Z lim,J Z d,J Z A,J Z B,J Z C,J Z D,J Z a,J Z e,J Z c]) X:=by
 obtain⟨⟨g,i,j,k,l,m,n,o,p⟩,q⟩:=h;simp only[Array.getD_eq_getD_getElem?]at f;simp[results,results19,go_sem,f,g,i,j,k,l,m,n,o,p,q]
theorem kQ{P:Program}{b:Func}{t l:Array μ}{R:Ending->ω->Prop}(h:results b t=results b l):∀(a:List Deferred) (u:FrameMode) (w:ω),Leaves P b t R a u w->Leaves P b l R a u w
 | [],.returning,w,hl=>by
  obtain⟨v,i,j⟩:=hl;exact⟨v,by rw[<-h];exact i,j⟩
 | [],.panicking _,w,hl=>hl
 | [],.run,w,hl=>hl
 | d :: a,u,w,hl=>by
  obtain⟨o,m,g,f,args,i,j,n⟩:=hl;refine⟨o,m,g,f,args,i,j,n.mono ?_⟩;intro e p q k;cases e with
  | returned v=>exact kQ h a _ _ k
  | panicked c=>exact kQ h a _ _ k
  | outgrown=>exact k
theorem Mv{T:Array μ}{v:μ}{k:Nat}(a:k≠4):results f19 (T.setIfInBounds k v)=results f19 T:=by
 simp[results,results19,Array.getD_eq_getD_getElem?,Array.getElem?_setIfInBounds,a]
theorem rx(b:Nat)(L:List μ)(u:TypeId)(p:μ)(c:List PanicEntry)(w:ω)(Q:L.length=10)(a:Blk w b L 52):
  CallsD prog 67 #[π (ς ⟨b,0,ν⟩)] (.panicking ({ v:=.iface u p,recovered:=φ } :: c)) w fun e S T=>
   e=ρ (.tuple #[])/\S=.panicking ({ v:=.iface u p,recovered:=θ } :: c)/\T=((((((((((w).setCell ⟨b,0,ν⟩ (σ ν 0 0)).setCell ⟨b,1,ν⟩ (J Z 0)).setCell ⟨b,2,ν⟩ (J Z 0)).setCell ⟨b,3,ν⟩ (J Z 0)).setCell ⟨b,4,ν⟩ (J Z 0)).setCell ⟨b,5,ν⟩ (J Z 0)).setCell ⟨b,6,ν⟩ (J Z 0)).setCell ⟨b,7,ν⟩ (J Z 0)).setCell ⟨b,8,ν⟩ (J Z 0)).setCell ⟨b,9,ν⟩ (J Z 1):=by
 obtain⟨d,f,g,h,i,j,k,l,m,n,rfl⟩:∃d f g h i j k l m n,L=[d,f,g,h,i,j,k,l,m,n]:=by
  match L,Q with
  | [d,f,g,h,i,j,k,l,m,n],_=>exact⟨d,f,g,h,i,j,k,l,m,n,rfl⟩
 have E:=a.cell 0 _ rfl;have q:=a.free 0;have F:=a.cell 1 _ rfl;have r:=a.free 1;have G:=a.cell 2 _ rfl;have s:=a.free 2;have H:=a.cell 3 _ rfl;have x:=a.free 3;have I:=a.cell 4 _ rfl;have y:=a.free 4;have K:=a.cell 5 _ rfl;have z:=a.free 5;have M:=a.cell 6 _ rfl;have A:=a.free 6;have N:=a.cell 7 _ rfl;have B:=a.free 7;have O:=a.cell 8 _ rfl;have C:=a.free 8;have P:=a.cell 9 _ rfl;have D:=a.free 9;refine callsD_of_wpS func67 rfl fun o U R=>?_;apply wpS_seq;apply wpS_region;simp[wpOpsS,go_sem,recoverD,R,ntmps67,Exit.thenS];refine wpS_cond (t:=θ) (by simp[Act.eval,Array.replicate]) ?_;simp only[if_true];apply wpS_region;simp[wpOpsS,go_sem,E,q,F,r,G,s,H,x,I,y,K,z,M,A,N,B,O,C,P,D,bodyPostS,results,results67]
theorem Bm(b:Nat)(w:ω):
  CallsD prog 67 #[π (ς ⟨b,0,ν⟩)] .returning w fun e d f=>e=ρ (.tuple #[])/\d=.returning/\f=w:=by
 refine callsD_of_wpS func67 rfl fun a g c=>?_;apply wpS_seq;apply wpS_region;simp[wpOpsS,go_sem,recoverD,c,ntmps67,Exit.thenS];refine wpS_cond (t:=φ) (by simp[Act.eval,Array.replicate]) ?_;simp only[Bool.false_eq_true,if_false];refine wpS_of_wp (wp_skip ?_);cases a;simp_all [bodyPostS,results,results67]
theorem EA(b:Int)(L:List St)(lim d A B C D a E:Int)(v:Option η)(c:Nat)(S:List D3)(n o q r u s t m:Int)(l:ByteArray)(x:Option η)(z:Nat)(p:η)(w:ω)(N:L.length<=1048576)(K:aO w v L L.length)(M:∀y,v=ς y->y.block<w.1.size)(k:S.length<=1048576)(j:S.length<=z)(i:z<=9223372036854775807)(H:bu w x S S.length)(G:∀y,x=ς y->y.block<w.1.size)(f:L.length<=c)(h:c<=9223372036854775807)(I:bQ p w)(g:bA ⟨b,n,o,q,r,S,u,s,l,t,m⟩=θ)(O:l.size<=maxLen):
  χ prog 68 #[κ #[σ v L.length c,J Z lim,J Z d,J Z A,J Z B,J Z C,J Z D,J Z a,J Z E],Gt b n o q r (σ x S.length z) u s l t m] w fun e P=>jy P w.1.size (eM ⟨L,lim,d,A,B,C,D,a,E⟩ ⟨b,n,o,q,r,S,u,s,l,t,m⟩) (fj ⟨L,lim,d,A,B,C,D,a,E⟩ ⟨b,n,o,q,r,S,u,s,l,t,m⟩) e/\δ w.1.size w P:=by
 rcases lR g with F | F | F | F
 ·obtain rfl:b=1:=F;rw[(mG g rfl).1,(mG g rfl).2];exact JO L lim d A B C D a E v c S n o q r u s t m l x z p w N K M k j i H G f h I O
 ·obtain rfl:b=2:=F;rw[(li g rfl).1,(li g rfl).2];exact JP L lim d A B C D a E v c S n o q r u s t m l x z p w N K M k j i H G f h I O
 ·obtain rfl:b=3:=F;rw[(lj g rfl).1,(lj g rfl).2];exact JQ L lim d A B C D a E v c S n o q r u s t m l x z p w N K M k j i H G f h I O
 ·obtain rfl:b=4:=F;rw[(lm g rfl).1,(lm g rfl).2];exact JR L lim d A B C D a E v c S n o q r u s t m l x z p w N K M k j i H G f h I O
theorem qt(b:Int)(L:List St)(lim d A B C D a I:Int)(M:Option η)(c:Nat)(S:List D3)(o q r s E u x n:Int)(l:ByteArray)(G:Option η)(H:Nat)(p pc:η)(w:ω)(hn:L.length<=1048576)(hS:aO w M L L.length)(hb:∀y,M=ς y->y.block<w.1.size)(ar:S.length<=1048576)(an:S.length<=H)(am:H<=9223372036854775807)(hD:bu w G S S.length)(hB:∀y,G=ς y->y.block<w.1.size)(ak:L.length<=c)(av:c<=9223372036854775807)(hE:bQ p w)(aj:dw pc w)(hs:l.size<=maxLen):
  χ prog 19 #[κ #[σ M L.length c,J Z lim,J Z d,J Z A,J Z B,J Z C,J Z D,J Z a,J Z I],κ #[J Z b,J Z o,J Z q,J Z r,J Z s,σ G S.length H,J Z E,J Z u,τ l,J Z x,J Z n]] w fun e m=>jy m w.1.size (eM ⟨L,lim,d,A,B,C,D,a,I⟩ ⟨b,o,q,r,s,S,E,u,l,x,n⟩) (fj ⟨L,lim,d,A,B,C,D,a,I⟩ ⟨b,o,q,r,s,S,E,u,l,x,n⟩) e/\δ w.1.size w m:=by
 have B0:=yz (bT w (ξ #[σ M L.length c,J Z lim,J Z d,J Z A,J Z B,J Z C,J Z D,J Z a,J Z I] 38) (ξ #[J Z b,J Z o,J Z q,J Z r,J Z s,σ G S.length H,J Z E,J Z u,τ l,J Z x,J Z n] 29) (ξ #[σ ν 0 0,J Z 0,J Z 0,J Z 0,J Z 0,J Z 0,J Z 0,J Z 0,J Z 0,J Z 0] 52));have U:=yz (((aq w [σ M L.length c,J Z lim,J Z d,J Z A,J Z B,J Z C,J Z D,J Z a,J Z I] 38).alloc (ξ #[J Z b,J Z o,J Z q,J Z r,J Z s,σ G S.length H,J Z E,J Z u,τ l,J Z x,J Z n] 29)).alloc (ξ #[σ ν 0 0,J Z 0,J Z 0,J Z 0,J Z 0,J Z 0,J Z 0,J Z 0,J Z 0,J Z 0] 52));have P:=yz ((by simpa using aq (w.alloc (ξ #[σ M L.length c,J Z lim,J Z d,J Z A,J Z B,J Z C,J Z D,J Z a,J Z I] 38)) [J Z b,J Z o,J Z q,J Z r,J Z s,σ G S.length H,J Z E,J Z u,τ l,J Z x,J Z n] 29:Blk ((w.alloc (ξ #[σ M L.length c,J Z lim,J Z d,J Z A,J Z B,J Z C,J Z D,J Z a,J Z I] 38)).alloc (ξ #[J Z b,J Z o,J Z q,J Z r,J Z s,σ G S.length H,J Z E,J Z u,τ l,J Z x,J Z n] 29)) (w.1.size+1) [J Z b,J Z o,J Z q,J Z r,J Z s,σ G S.length H,J Z E,J Z u,τ l,J Z x,J Z n] 29).alloc (ξ #[σ ν 0 0,J Z 0,J Z 0,J Z 0,J Z 0,J Z 0,J Z 0,J Z 0,J Z 0,J Z 0] 52));have R0:=yz (by simpa using aq ((w.alloc (ξ #[σ M L.length c,J Z lim,J Z d,J Z A,J Z B,J Z C,J Z D,J Z a,J Z I] 38)).alloc (ξ #[J Z b,J Z o,J Z q,J Z r,J Z s,σ G S.length H,J Z E,J Z u,τ l,J Z x,J Z n] 29)) [σ ν 0 0,J Z 0,J Z 0,J Z 0,J Z 0,J Z 0,J Z 0,J Z 0,J Z 0,J Z 0] 52:Blk (((w.alloc (ξ #[σ M L.length c,J Z lim,J Z d,J Z A,J Z B,J Z C,J Z D,J Z a,J Z I] 38)).alloc (ξ #[J Z b,J Z o,J Z q,J Z r,J Z s,σ G S.length H,J Z E,J Z u,τ l,J Z x,J Z n] 29)).alloc (ξ #[σ ν 0 0,J Z 0,J Z 0,J Z 0,J Z 0,J Z 0,J Z 0,J Z 0,J Z 0,J Z 0] 52)) (w.1.size+1+1) [σ ν 0 0,J Z 0,J Z 0,J Z 0,J Z 0,J Z 0,J Z 0,J Z 0,J Z 0,J Z 0] 52);have ao:w.1.size+1+1+1<=(((w.alloc (ξ #[σ M L.length c,J Z lim,J Z d,J Z A,J Z B,J Z C,J Z D,J Z a,J Z I] 38)).alloc (ξ #[J Z b,J Z o,J Z q,J Z r,J Z s,σ G S.length H,J Z E,J Z u,τ l,J Z x,J Z n] 29)).alloc (ξ #[σ ν 0 0,J Z 0,J Z 0,J Z 0,J Z 0,J Z 0,J Z 0,J Z 0,J Z 0,J Z 0] 52)).1.size:=by simp
 have cW:=yz (fun (W:ω) (h:δ w.1.size w W)=>mN S b o q r s E u x n l G H pc W ar an am (hD.kept h) (aj.kept h));have cO:=yz (fun (W:ω) (h:δ w.1.size w W) (hc:bA ⟨b,o,q,r,s,S,E,u,l,x,n⟩=θ)=>EA b L lim d A B C D a I M c S o q r s E u x n l G H p W hn (hS.kept h) (fun y e=>Ϗ (hb y e) h.size) ar an am (hD.kept h) (fun y e=>Ϗ (hB y e) h.size) ak av (hE.kept h) hc hs);have HN:=yz (fun h=>uf (t:=⟨L,lim,d,A,B,C,D,a,I⟩) (c:=⟨b,o,q,r,s,S,E,u,l,x,n⟩) h);obtain⟨t2,au⟩:∃z,eM ⟨L,lim,d,A,B,C,D,a,I⟩ ⟨b,o,q,r,s,S,E,u,l,x,n⟩=z:=⟨_,rfl⟩
 obtain⟨N,al⟩:∃z,fj ⟨L,lim,d,A,B,C,D,a,I⟩ ⟨b,o,q,r,s,S,E,u,l,x,n⟩=z:=⟨_,rfl⟩
 rw[au,al]at cO HN ⊢;clear au al hS hD hb hB hE aj;have aA:∀(fn:Fn) (first ai:Array μ) (w:ω),(Instr.makeFunc fn first ai).run prog w=.ok (.func fn first ai) w:=fun _ _ _ _=>rfl;go_enter_defers func19,ntmps19
 go_wp2;refine wp_region_held_drew (S:=(fun m=>m.cell? ⟨w.1.size,0,ν⟩=ς (σ M L.length c)/\m.cell? ⟨w.1.size,1,ν⟩=ς (J Z lim)/\m.cell? ⟨w.1.size,2,ν⟩=ς (J Z d)/\m.cell? ⟨w.1.size,3,ν⟩=ς (J Z A)/\m.cell? ⟨w.1.size,4,ν⟩=ς (J Z B)/\m.cell? ⟨w.1.size,5,ν⟩=ς (J Z C)/\m.cell? ⟨w.1.size,6,ν⟩=ς (J Z D)/\m.cell? ⟨w.1.size,7,ν⟩=ς (J Z a)/\m.cell? ⟨w.1.size,8,ν⟩=ς (J Z I)/\m.cell? ⟨w.1.size+1,0,ν⟩=ς (J Z b)/\m.cell? ⟨w.1.size+1,1,ν⟩=ς (J Z o)/\m.cell? ⟨w.1.size+1,2,ν⟩=ς (J Z q)/\m.cell? ⟨w.1.size+1,3,ν⟩=ς (J Z r)/\m.cell? ⟨w.1.size+1,4,ν⟩=ς (J Z s)/\m.cell? ⟨w.1.size+1,5,ν⟩=ς (σ G S.length H)/\m.cell? ⟨w.1.size+1,6,ν⟩=ς (J Z E)/\m.cell? ⟨w.1.size+1,7,ν⟩=ς (J Z u)/\m.cell? ⟨w.1.size+1,8,ν⟩=ς (τ l)/\m.cell? ⟨w.1.size+1,9,ν⟩=ς (J Z x)/\m.cell? ⟨w.1.size+1,10,ν⟩=ς (J Z n) )) (by kernel_rfl) ?_ (fun X=>?_)
 ·exact⟨(yx U).cell 0 _ rfl,(yx U).cell 1 _ rfl,(yx U).cell 2 _ rfl,(yx U).cell 3 _ rfl,(yx U).cell 4 _ rfl,(yx U).cell 5 _ rfl,(yx U).cell 6 _ rfl,(yx U).cell 7 _ rfl,(yx U).cell 8 _ rfl,(yx P).cell 0 _ rfl,(yx P).cell 1 _ rfl,(yx P).cell 2 _ rfl,(yx P).cell 3 _ rfl,(yx P).cell 4 _ rfl,(yx P).cell 5 _ rfl,(yx P).cell 6 _ rfl,(yx P).cell 7 _ rfl,(yx P).cell 8 _ rfl,(yx P).cell 9 _ rfl,(yx P).cell 10 _ rfl⟩
 refine wpAnyH_take (i:=0) (v:=?_) rfl (by kernel_rfl) (by kernel_rfl) (by kernel_rfl) (fun _ _ _ h=>kQ (Mv (k:=6) (by decide)) _ _ _ h) (Or.inl ⟨by kernel_rfl,?_⟩) (by assumption) ?_;rotate_left
 ·intro W0 ah;(try dsimp only at ah);go_simp<;>with_reducible rfl
 try simp only[Act.put,sxA,sxB,sxC]
 refine wpAnyH_take (i:=1) (v:=?_) rfl (by kernel_rfl) (by kernel_rfl) (by kernel_rfl) (fun _ _ _ h=>kQ (Mv (k:=7) (by decide)) _ _ _ h) (Or.inl ⟨by kernel_rfl,?_⟩) (by assumption) ?_;rotate_left
 ·intro W0 ah;(try dsimp only at ah);go_simp<;>with_reducible rfl
 try simp only[Act.put,sxA,sxB,sxC]
 have Bd:=yz ((yx B0).drew);have Ad:=yz ((yx U).drewn);have Kd:=yz ((yx P).drewn);have Rd:=yz ((yx R0).drewn);have ay:w.1.size+1+1+1<=(World.drew (((w.alloc (ξ #[σ M L.length c,J Z lim,J Z d,J Z A,J Z B,J Z C,J Z D,J Z a,J Z I] 38)).alloc (ξ #[J Z b,J Z o,J Z q,J Z r,J Z s,σ G S.length H,J Z E,J Z u,τ l,J Z x,J Z n] 29)).alloc (ξ #[σ ν 0 0,J Z 0,J Z 0,J Z 0,J Z 0,J Z 0,J Z 0,J Z 0,J Z 0,J Z 0] 52))).1.size:=ao;generalize World.drew (((w.alloc (ξ #[σ M L.length c,J Z lim,J Z d,J Z A,J Z B,J Z C,J Z D,J Z a,J Z I] 38)).alloc (ξ #[J Z b,J Z o,J Z q,J Z r,J Z s,σ G S.length H,J Z E,J Z u,τ l,J Z x,J Z n] 29)).alloc (ξ #[σ ν 0 0,J Z 0,J Z 0,J Z 0,J Z 0,J Z 0,J Z 0,J Z 0,J Z 0,J Z 0] 52))=V at Bd Ad Kd Rd ay X ⊢;clear B0 U P R0 ao;refine rd1 2 rfl fun K hK=>?_;go_simp;refine(yx cW _ (yx Bd)).mono ?_;rintro e v2 ⟨he,T⟩;have aa:=aB Bd T;have A2':=ap Ad T;have g:=ap Kd T;have ab:=ap Rd T;have az:=T.size;clear T Bd Ad Kd Rd cW;unfold bm at he;cases hk:bA ⟨b,o,q,r,s,S,E,u,l,x,n⟩
 ·rw[hk]at he;have aw:e=em pc:=he;subst aw;have HO:=yz (yx HN hk);unfold em;clear hK cO HN;go_wp2_with fail;refine leaves_cons (f:=67) (args:=#[π (ς ⟨w.1.size+1+1,0,ν⟩)]) (by simp) (by simp[go_sem]) ?_;refine(rx (w.1.size+1+1) _ _ _ [] _ rfl (yx ab)).mono ?_;rintro e u' w'' ⟨rfl,rfl,hw⟩;subst hw;refine⟨_,yV _ _ (w.1.size+1+1) _ 0 0 0 0 0 0 0 0 1 rfl (bJ (aZ (yx ab) rfl _ 0 0 0 0 0 0 0 0 1)),?_,?_⟩
  ·rw[(yx HO).1,(yx HO).2];exact du _ _ 1
  ·iterate 10 (refine aF ?_ (Nat.le_add_right _ 2) _ _)
   exact yx aa
 rw[hk,if_pos rfl]at he;dsimp only at he;subst he;replace cO:=yz (fun W h=>yx cO W h hk);generalize Gt b o q r s (σ G S.length H) E u l x n=wv at cO ⊢;clear HN hk;obtain⟨L2,O,F,A2,B2,C2,D2,j,ac⟩:=t2;refine hK.out _ _ ⟨(yx A2').cell 0 _ rfl,(yx A2').cell 1 _ rfl,(yx A2').cell 2 _ rfl,(yx A2').cell 3 _ rfl,(yx A2').cell 4 _ rfl,(yx A2').cell 5 _ rfl,(yx A2').cell 6 _ rfl,(yx A2').cell 7 _ rfl,(yx A2').cell 8 _ rfl,(yx g).cell 0 _ rfl,(yx g).cell 1 _ rfl,(yx g).cell 2 _ rfl,(yx g).cell 3 _ rfl,(yx g).cell 4 _ rfl,(yx g).cell 5 _ rfl,(yx g).cell 6 _ rfl,(yx g).cell 7 _ rfl,(yx g).cell 8 _ rfl,(yx g).cell 9 _ rfl,(yx g).cell 10 _ rfl⟩ (fun ae=>?_);clear hK K X;refine rd1 3 rfl fun K hK=>?_;go_simp;refine(yx cO _ (yx aa)).mono ?_;rintro e w3 ⟨⟨a2,c2,rfl,hC⟩,T⟩;dsimp only at hC;have C5:=yz (hC.low (B':=w.1.size+1+1+1) (by omega));have R5:=ap ab T;have Y:=ap A2' T;have Q:=ap g T;have B5:=aB aa T;clear T hC ab aa A2' g cO;refine hK.out _ _ ⟨(yx Y).cell 0 _ rfl,(yx Y).cell 1 _ rfl,(yx Y).cell 2 _ rfl,(yx Y).cell 3 _ rfl,(yx Y).cell 4 _ rfl,(yx Y).cell 5 _ rfl,(yx Y).cell 6 _ rfl,(yx Y).cell 7 _ rfl,(yx Y).cell 8 _ rfl,(yx Q).cell 0 _ rfl,(yx Q).cell 1 _ rfl,(yx Q).cell 2 _ rfl,(yx Q).cell 3 _ rfl,(yx Q).cell 4 _ rfl,(yx Q).cell 5 _ rfl,(yx Q).cell 6 _ rfl,(yx Q).cell 7 _ rfl,(yx Q).cell 8 _ rfl,(yx Q).cell 9 _ rfl,(yx Q).cell 10 _ rfl⟩ (fun af=>?_);clear hK K ae;refine rd1 4 rfl fun K hK=>?_;have r0:=ck (yx R5);have e0:=dU (yx R5);go_simp;clear r0 e0;have A6:=yz (jS (yx Y) (show w.1.size≠w.1.size+1+1 by omega) (σ a2 L2.length c2) (J Z O) (J Z F) (J Z A2) (J Z B2) (J Z C2) (J Z D2) (J Z j) (J Z ac) (J Z N));have R:=yz (jS (yx Q) (show w.1.size+1≠w.1.size+1+1 by omega) (σ a2 L2.length c2) (J Z O) (J Z F) (J Z A2) (J Z B2) (J Z C2) (J Z D2) (J Z j) (J Z ac) (J Z N));refine hK.out _ _ ⟨(yx A6).cell 0 _ rfl,(yx A6).cell 1 _ rfl,(yx A6).cell 2 _ rfl,(yx A6).cell 3 _ rfl,(yx A6).cell 4 _ rfl,(yx A6).cell 5 _ rfl,(yx A6).cell 6 _ rfl,(yx A6).cell 7 _ rfl,(yx A6).cell 8 _ rfl,(yx R).cell 0 _ rfl,(yx R).cell 1 _ rfl,(yx R).cell 2 _ rfl,(yx R).cell 3 _ rfl,(yx R).cell 4 _ rfl,(yx R).cell 5 _ rfl,(yx R).cell 6 _ rfl,(yx R).cell 7 _ rfl,(yx R).cell 8 _ rfl,(yx R).cell 9 _ rfl,(yx R).cell 10 _ rfl⟩ (fun ag=>?_);clear hK K af A6 R;refine rdn ?_;clear ag;go_wp2_with fail;refine leaves_cons (f:=67) (args:=#[π (ς ⟨w.1.size+1+1,0,ν⟩)]) (by simp) (by simp[go_sem]) ?_;refine(Bm (w.1.size+1+1) _).mono ?_;rintro e u' w'' ⟨rfl,rfl,hw⟩;subst hw;refine⟨_,yV _ _ (w.1.size+1+1) _ O F A2 B2 C2 D2 j ac N rfl (bJ (aZ (yx R5) rfl _ O F A2 B2 C2 D2 j ac N)),?_,?_⟩
 ·refine⟨a2,c2,rfl,?_⟩;refine ax.low (B:=w.1.size+1+1+1) ?_ (by omega);iterate 10 (refine ax.far ?_ (ϐ (w.1.size+1+1)) _ _)
  exact yx C5
 ·iterate 10 (refine aF ?_ (Nat.le_add_right _ 2) _ _)
  exact yx B5
section
def uA(p pc:η)(w:ω):Prop:=gX w/\bQ p w/\dw pc w
variable {b c:Nat} {a:Option η} {W w w':ω}
theorem uA.kept{p b:η}(h:uA p b w)(a:δ w.1.size w w'):uA p b w':=⟨le h.1 a,h.2.1.kept a,h.2.2.kept a⟩
theorem uH{L:List μ}{t:TypeId}(h:Blk W b L t)(l:L.length=9)(a c d e f g i j k:μ):Blk (((((((((W.setCell ⟨b,0,ν⟩ (a)).setCell ⟨b,1,ν⟩ (c)).setCell ⟨b,2,ν⟩ (d)).setCell ⟨b,3,ν⟩ (e)).setCell ⟨b,4,ν⟩ (f)).setCell ⟨b,5,ν⟩ (g)).setCell ⟨b,6,ν⟩ (i)).setCell ⟨b,7,ν⟩ (j)).setCell ⟨b,8,ν⟩ (k)) b [a,c,d,e,f,g,i,j,k] t:=by
 match L,l with
 | [x0,x1,x2,x3,x4,x5,x6,x7,x8],_=>exact((((((((h.set 0 _).set 1 _).set 2 _).set 3 _).set 4 _).set 5 _).set 6 _).set 7 _).set 8 _
theorem mc{n:Nat}(h:δ n w W)(a:n<=b)(c d e f g i j k l:μ):δ n w (((((((((W.setCell ⟨b,0,ν⟩ (c)).setCell ⟨b,1,ν⟩ (d)).setCell ⟨b,2,ν⟩ (e)).setCell ⟨b,3,ν⟩ (f)).setCell ⟨b,4,ν⟩ (g)).setCell ⟨b,5,ν⟩ (i)).setCell ⟨b,6,ν⟩ (j)).setCell ⟨b,7,ν⟩ (k)).setCell ⟨b,8,ν⟩ (l)):=by
 iterate 8 (refine Below.setCell ?_ a _)
 exact h.setCell a _
theorem Bt{B:Nat}{L:List St}(h:ax W B L a c)(d:∀x,a=ς x->x.block≠b)(e f g i j k l m n:μ):ax (((((((((W.setCell ⟨b,0,ν⟩ (e)).setCell ⟨b,1,ν⟩ (f)).setCell ⟨b,2,ν⟩ (g)).setCell ⟨b,3,ν⟩ (i)).setCell ⟨b,4,ν⟩ (j)).setCell ⟨b,5,ν⟩ (k)).setCell ⟨b,6,ν⟩ (l)).setCell ⟨b,7,ν⟩ (m)).setCell ⟨b,8,ν⟩ (n)) B L a c:=by
 iterate 8 (refine ax.off ?_ d _ _)
 exact h.off d _ _
theorem IR{B:Nat}{L:List St}(h:ax W B L a c):ax W.drew B L a c:=h
theorem qK{B:Nat}{c:Cm}{d:Int}{e:Ending}(h:Fo w' B c d e):∃a k,e=ρ (κ #[J Z c.kind,J Z c.A,J Z c.B,J Z c.C,J Z c.D,σ a c.S.length k,J Z c.wd,J Z c.ht,τ c.px,J Z c.lv,J Z c.fo,J Z d])/\(bu w' a c.S c.S.length/\∀y,a=ς y->y.block<w'.1.size)/\c.S.length<=k/\k<=9223372036854775807:=by
 obtain⟨v,m,f⟩:=h;obtain⟨a,k,rfl⟩:=dZ f;have o:maxLen<=9223372036854775807:=by decide +kernel
 refine⟨a,k,m,⟨(qk f).1,fun y e=>?_⟩,?_⟩
 ·rcases f.2 with ⟨b,_⟩ | ⟨g,j,l,b,p,n,_⟩
  ·injection b with b;rw[b]at e;cases e
  ·injection b with b;rw[b]at e;obtain rfl:=ό e;exact(Array.getElem?_eq_some_iff.1 n).1
 ·rcases(qk f).2 with ⟨b,i⟩ | ⟨b,i⟩
  ·exact⟨b,ώ i o⟩
  ·omega
theorem AA(T:Array μ)(X:ω)(b:Nat)(t:Tk)(a:Option η)(c:Nat)(y d:μ)(g:T.getD 6 undef=π (ς ⟨b,0,ν⟩))(e:T.getD 7 undef=y)(f:T.getD 8 undef=d)(h:Blk X b [σ a t.L.length c,J Z t.lim,J Z t.mode,J Z t.A,J Z t.B,J Z t.C,J Z t.D,J Z t.coast,J Z t.fr] 38):(results f50 T).run prog X=.ok (.tuple #[κ #[σ a t.L.length c,J Z t.lim,J Z t.mode,J Z t.A,J Z t.B,J Z t.C,J Z t.D,J Z t.coast,J Z t.fr],y,d]) X:=by
 obtain⟨i,j,k,l,m,n,o,p,q⟩:=bO (h);simp only[Array.getD_eq_getD_getElem?]at g e f;simp[results,results50,go_sem,g,e,f,i,j,k,l,m,n,o,p,q]
def OutA(s:ByteArray)(t:Tk)(q:Nat)(w':ω)(B:Nat)(e:Ending):Prop:=∃(a:Option η) (c:Nat) (t2:Tk) (y:Int) (d:Bool),e=ρ (.tuple #[κ #[σ a t2.L.length c,J Z t2.lim,J Z t2.mode,J Z t2.A,J Z t2.B,J Z t2.C,J Z t2.D,J Z t2.coast,J Z t2.fr],J Z y,β d])/\ax w' B t2.L a c/\t2.L.length<=1048576/\((d=φ/\eG s t q=ν)\/(d=θ/\∃q2:Nat,y=(q2:Int)/\q2<=s.size/\eG s t q=ς (t2,q2)))
theorem Ey(s:ByteArray)(q:Nat)(L:List St)(lim f A B C D b o:Int)(v:Option η)(c:Nat)(p pc:η)(w:ω)(Bz:Nat)(hs:s.size<=8000)(hq:q<=s.size)(hn:L.length<=1048576)(hC:ax w Bz L v c)(hE:uA p pc w):
  χ prog 50 #[κ #[σ v L.length c,J Z lim,J Z f,J Z A,J Z B,J Z C,J Z D,J Z b,J Z o],τ s,J Z (q:Int)] w fun e w'=>OutA s ⟨L,lim,f,A,B,C,D,b,o⟩ q w' w.1.size e/\δ w.1.size w w':=by
 have B0:=yz (aJ w (ξ #[σ v L.length c,J Z lim,J Z f,J Z A,J Z B,J Z C,J Z D,J Z b,J Z o] 38) (ξ #[σ ν 0 0,J Z 0,J Z 0,J Z 0,J Z 0,J Z 0,J Z 0,J Z 0,J Z 0] 38));have A0:=yz ((aq w [σ v L.length c,J Z lim,J Z f,J Z A,J Z B,J Z C,J Z D,J Z b,J Z o] 38).alloc (ξ #[σ ν 0 0,J Z 0,J Z 0,J Z 0,J Z 0,J Z 0,J Z 0,J Z 0,J Z 0] 38));have R0:Hid (Blk ((w.alloc (ξ #[σ v L.length c,J Z lim,J Z f,J Z A,J Z B,J Z C,J Z D,J Z b,J Z o] 38)).alloc (ξ #[σ ν 0 0,J Z 0,J Z 0,J Z 0,J Z 0,J Z 0,J Z 0,J Z 0,J Z 0] 38)) (w.1.size+1) [σ ν 0 0,J Z 0,J Z 0,J Z 0,J Z 0,J Z 0,J Z 0,J Z 0,J Z 0] 38):=yz (by simpa using aq (w.alloc (ξ #[σ v L.length c,J Z lim,J Z f,J Z A,J Z B,J Z C,J Z D,J Z b,J Z o] 38)) [σ ν 0 0,J Z 0,J Z 0,J Z 0,J Z 0,J Z 0,J Z 0,J Z 0,J Z 0] 38);have E0:=yz (hE.kept (yx B0));have C0:=yz (hC.kept (yx B0));obtain⟨x,y,z,ak,hz⟩:=ss (q:=q) hs;have cG:Hid (∀W:ω,gX W->χ prog 97 #[τ s,J Z (q:Int)] W fun e w'=>e=ρ (κ #[τ x,J Z y,J Z z])/\δ W.1.size W w'):=yz (fun W h=>(tw s (q:Int) W (by omega) (by omega) h).mono fun e w' h=>⟨by rw[h.1,ak],h.2⟩);have HZ:=yz hz;have ab:w.1.size<=w.1.size+1:=by omega
 clear ak hz hE hC;go_enter func50,ntmps50;go_wp2_with fail;generalize (w.alloc (ξ #[σ v L.length c,J Z lim,J Z f,J Z A,J Z B,J Z C,J Z D,J Z b,J Z o] 38)).alloc (ξ #[σ ν 0 0,J Z 0,J Z 0,J Z 0,J Z 0,J Z 0,J Z 0,J Z 0,J Z 0] 38)=W0 at *;refine(yx cG _ (yx E0).1).mono ?_;rintro e w1 ⟨rfl,l⟩;have a:=an w1 (ξ #[τ x,J Z y,J Z z] 73);have B1:=aB (aB B0 l) a;have A1:=aW A0 l a;have R1:=aW R0 l a;have E1:=aW E0 l a;have C1:=aW C0 l a;have T1:=yz (aq w1 [τ x,J Z y,J Z z] 73);have ay:w1.1.size≠w.1.size+1:=by have:=((yx R0).kept l).lt;omega
 clear l a cG B0 A0 R0 E0 C0;have t0:=dT (yx T1);rcases yx HZ with ⟨h0,hz⟩ | ⟨q2,h0,hy,hz⟩
 ·have aF:(z==0)=φ:=by simp[hz]
  have ac:=yz (AP (t:=⟨L,lim,f,A,B,C,D,b,o⟩) h0);clear h0 hz HZ;have r0:=bO (yx R1);have f0:=iG (yx R1);go_wp2_with fail;clear r0 f0;have W9:=yz (uH (yx R1) rfl (σ ν 0 0) (J Z 0) (J Z 0) (J Z 0) (J Z 0) (J Z 0) (J Z 0) (J Z 0) (J Z 0));have V9:=yz (mc (yx B1) ab (σ ν 0 0) (J Z 0) (J Z 0) (J Z 0) (J Z 0) (J Z 0) (J Z 0) (J Z 0) (J Z 0));generalize ((((((((((w1.alloc (ξ #[τ x,J Z y,J Z z] 73)).setCell ⟨w.1.size+1,0,ν⟩ (σ ν 0 0)).setCell ⟨w.1.size+1,1,ν⟩ (J Z 0)).setCell ⟨w.1.size+1,2,ν⟩ (J Z 0)).setCell ⟨w.1.size+1,3,ν⟩ (J Z 0)).setCell ⟨w.1.size+1,4,ν⟩ (J Z 0)).setCell ⟨w.1.size+1,5,ν⟩ (J Z 0)).setCell ⟨w.1.size+1,6,ν⟩ (J Z 0)).setCell ⟨w.1.size+1,7,ν⟩ (J Z 0)).setCell ⟨w.1.size+1,8,ν⟩ (J Z 0))=X9 at *;refine ϋ (AA _ X9 (w.1.size+1) dW ν 0 (J Z 0) (β φ) rfl rfl rfl (yx W9)) rfl ⟨⟨ν,0,dW,0,φ,rfl,hZ _ _,ϑ _,.inl ⟨rfl,yx ac⟩⟩,yx V9⟩
 ·subst hy hz;have al:=oC h0;have az:x.size<=1048576:=by omega
  have cR:=yz (fun (W:ω) (h:dw pc W)=>(gM x pc W az h).mono fun e w' h=>(⟨qK h.1,h.2⟩:_/\δ W.1.size W w'));have HR:=yz (fun h:dO x=0=>uP h);have ah:=qh x;have HS:Hid (eG s ⟨L,lim,f,A,B,C,D,b,o⟩ q=if dO x=0/\fj ⟨L,lim,f,A,B,C,D,b,o⟩ (gK x)=0 then ς (eM ⟨L,lim,f,A,B,C,D,b,o⟩ (gK x),q2) else ν):=yz (by unfold eG;rw[h0]);generalize dO x=k at *;generalize gK x=cm at *;obtain⟨j,O,P,Q,R,S,X,T,V,U,N⟩:=cm;dsimp only at cR HR ah;have av:q2<=s.size:=al.1;clear h0 HZ al;go_wp2_with fail;clear t0;generalize w1.alloc (ξ #[τ x,J Z (q2:Int),J Z 0] 73)=W1 at *;generalize w1.1.size=xb at *;refine(yx cR _ (yx E1).2.2).mono ?_;rintro e w2 ⟨⟨M,dr,rfl,⟨hD,ag⟩,au,aj⟩,l⟩;have a:=an w2 (ξ #[J Z j,J Z O,J Z P,J Z Q,J Z R,σ M S.length dr,J Z X,J Z T,τ V,J Z U,J Z N,J Z k] 34);have B2:=aB (aB B1 l) a;have A2:=aW A1 l a;have Y:=aW R1 l a;have E2:=aW E1 l a;have C2:=aW C1 l a;have T2:=aW T1 l a;have K2:=yz (aq w2 [J Z j,J Z O,J Z P,J Z Q,J Z R,σ M S.length dr,J Z X,J Z T,τ V,J Z U,J Z N,J Z k] 34);have D2:=yz (hD.kept a);have ae:=yz (fun (y:η) (e:M=ς y)=>Ϗ (ag y e) a.size);clear l a cR hD ag B1 A1 R1 E1 C1 T1;obtain⟨k0,k1,k2,k3,k4,k5,k6,k7,k8,k9,am,aA⟩:=dR (yx K2);obtain⟨a0,a1,a2,r,a4,a5,a6,a7,a8⟩:=bO (yx A2);by_cases hk:k=0
  ·subst hk;have ai:=yx HR rfl;have cO:=yz (fun (W:ω) (hC:ax W Bz L v c) (hE:uA p pc W) (hD:bu W M S S.length) (hB:∀y,M=ς y->y.block<W.1.size)=>qt j L lim f A B C D b o v c S O P Q R X T U N V M dr p pc W hn hC.stars (fun y e=>(hC.block y e).2) (by omega) au aj hD hB hC.capMax.1 (ώ hC.capMax.2 (by decide +kernel)) hE.2.1 hE.2.2 ai.2);have HN:=yz (mF ⟨L,lim,f,A,B,C,D,b,o⟩ ⟨j,O,P,Q,R,S,X,T,V,U,N⟩ hn);generalize eM ⟨L,lim,f,A,B,C,D,b,o⟩ ⟨j,O,P,Q,R,S,X,T,V,U,N⟩=t3 at *;generalize fj ⟨L,lim,f,A,B,C,D,b,o⟩ ⟨j,O,P,Q,R,S,X,T,V,U,N⟩=F at *;obtain⟨d,hd⟩:∃d,(F==0)=d:=⟨_,rfl⟩
   obtain⟨u,i,g,G,H,I,K,m,n⟩:=t3;dsimp only[jy]at cO;have ap:Hid (u.length<=1048576):=HN;clear ai HR HN;go_wp2_with fail;clear k0 k1 k2 k3 k4 k5 k6 k7 k8 k9 am aA a0 a1 a2 r a4 a5 a6 a7 a8;generalize w2.alloc (ξ #[J Z j,J Z O,J Z P,J Z Q,J Z R,σ M S.length dr,J Z X,J Z T,τ V,J Z U,J Z N,J Z 0] 34)=W2 at *;generalize w2.1.size=kb at *;refine(yx cO _ (yx C2) (yx E2) (yx D2) (yx ae)).mono ?_;rintro e w3 ⟨⟨r,E,rfl,aa⟩,l⟩;have a:=an w3 (ξ #[σ r u.length E,J Z i,J Z g,J Z G,J Z H,J Z I,J Z K,J Z m,J Z n,J Z F] 52);have B3:=aB (aB B2 l) a;have R3:=aW Y l a;have T3:=aW T2 l a;have O3:=yz (aq w3 [σ r u.length E,J Z i,J Z g,J Z G,J Z H,J Z I,J Z K,J Z m,J Z n,J Z F] 52);have aw:w3.1.size≠w.1.size+1:=by have:=((yx Y).kept l).lt;omega
   have af:=(aa.kept a).low (ώ (yx B2).size (ύ _));have ar:=yz (fun (y:η) (e:r=ς y)=>(show y.block≠w.1.size+1 from fun hh=>by have h1:=(aa.block y e).1;have h2:=(yx Y).lt;omega));have ao:=yz af;clear l a cO aa af B2 A2 Y E2 C2 T2 K2 D2 ae;have r0:=bO (yx R3);have f0:=iG (yx R3);have o0:=ck (yx O3);have t0:=dT (yx T3);go_upto_region 8 with fail;generalize w3.alloc (ξ #[σ r u.length E,J Z i,J Z g,J Z G,J Z H,J Z I,J Z K,J Z m,J Z n,J Z F] 52)=W3 at *;generalize w3.1.size=ub at *;have aE:=Ne.symm ay;have aD:=Ne.symm aw;go_region
   all_goals
    go_wp2_with fail;have W9:=yz ((uH (yx R3) rfl (σ r u.length E) (J Z i) (J Z g) (J Z G) (J Z H) (J Z I) (J Z K) (J Z m) (J Z n)).drewn);have V9:=yz ((mc (yx B3) ab (σ r u.length E) (J Z i) (J Z g) (J Z G) (J Z H) (J Z I) (J Z K) (J Z m) (J Z n)).drew);have U9:=yz (IR (Bt (yx ao) (yx ar) (σ r u.length E) (J Z i) (J Z g) (J Z G) (J Z H) (J Z I) (J Z K) (J Z m) (J Z n)));generalize World.drew (((((((((W3.setCell ⟨w.1.size+1,0,ν⟩ (σ r u.length E)).setCell ⟨w.1.size+1,1,ν⟩ (J Z i)).setCell ⟨w.1.size+1,2,ν⟩ (J Z g)).setCell ⟨w.1.size+1,3,ν⟩ (J Z G)).setCell ⟨w.1.size+1,4,ν⟩ (J Z H)).setCell ⟨w.1.size+1,5,ν⟩ (J Z I)).setCell ⟨w.1.size+1,6,ν⟩ (J Z K)).setCell ⟨w.1.size+1,7,ν⟩ (J Z m)).setCell ⟨w.1.size+1,8,ν⟩ (J Z n))=X9 at *;refine ϋ (AA _ X9 (w.1.size+1) ⟨u,i,g,G,H,I,K,m,n⟩ r E (J Z (q2:Int)) (β d) rfl rfl rfl (yx W9)) rfl ⟨⟨r,E,⟨u,i,g,G,H,I,K,m,n⟩,(q2:Int),d,rfl,yx U9,yx ap,?_⟩,yx V9⟩;rw[yx HS];cases d
    ·exact .inl ⟨rfl,if_neg (fun h=>by rw[h.2]at hd;exact absurd hd (by decide))⟩
    ·exact .inr ⟨rfl,q2,rfl,av,if_pos ⟨by simp,by simpa using hd⟩⟩
  ·have aC:(k==0)=φ:=by simp[hk]
   have ac:Hid (eG s ⟨L,lim,f,A,B,C,D,b,o⟩ q=ν):=yz (by rw[yx HS];exact if_neg (fun h=>hk h.1));clear hk HS HR ah;clear k0 k1 k2 k3 k4 k5 k6 k7 k8 k9 am a0 a1 a2 r a4 a5 a6 a7 a8;have r0:=bO (yx Y);have f0:=iG (yx Y);go_wp2_with fail;clear r0 f0;have W9:=yz (uH (yx Y) rfl (σ ν 0 0) (J Z 0) (J Z 0) (J Z 0) (J Z 0) (J Z 0) (J Z 0) (J Z 0) (J Z 0));have V9:=yz (mc (yx B2) ab (σ ν 0 0) (J Z 0) (J Z 0) (J Z 0) (J Z 0) (J Z 0) (J Z 0) (J Z 0) (J Z 0));generalize ((((((((((w2.alloc (ξ #[J Z j,J Z O,J Z P,J Z Q,J Z R,σ M S.length dr,J Z X,J Z T,τ V,J Z U,J Z N,J Z k] 34)).setCell ⟨w.1.size+1,0,ν⟩ (σ ν 0 0)).setCell ⟨w.1.size+1,1,ν⟩ (J Z 0)).setCell ⟨w.1.size+1,2,ν⟩ (J Z 0)).setCell ⟨w.1.size+1,3,ν⟩ (J Z 0)).setCell ⟨w.1.size+1,4,ν⟩ (J Z 0)).setCell ⟨w.1.size+1,5,ν⟩ (J Z 0)).setCell ⟨w.1.size+1,6,ν⟩ (J Z 0)).setCell ⟨w.1.size+1,7,ν⟩ (J Z 0)).setCell ⟨w.1.size+1,8,ν⟩ (J Z 0))=X9 at *;refine ϋ (AA _ X9 (w.1.size+1) dW ν 0 (J Z 0) (β φ) rfl rfl rfl (yx W9)) rfl ⟨⟨ν,0,dW,0,φ,rfl,hZ _ _,ϑ _,.inl ⟨rfl,yx ac⟩⟩,yx V9⟩
end
section
variable {s:ByteArray} {xs:List μ} {b c m q:Nat} {a:Option η} {t t':TypeId} {v:μ} {W w:ω}
theorem Kf{B B' q n r:Nat}{f:μ}{b:List μ}(h:w.ownsRow B t m v n xs)(l:w.ownsRow B' t' q f r b)(p:t≠t'):v.ownBlock=ν\/v.ownBlock≠f.ownBlock:=by
 rcases h.2 with ⟨rfl,_⟩ | ⟨g,i,j,rfl,_,o,_⟩
 ·exact .inl rfl
 ·refine .inr (fun e=>?_);rcases l.2 with ⟨rfl,_⟩ | ⟨k,c,d,rfl,_,a,_⟩
  ·cases e
  ·obtain rfl:g=k:=ό e;rw[o]at a;injection a with e1;injection e1 with _ e2;exact p e2
theorem Hw{c:ω}{B:Nat}{n:Nat}(h:w.ownsRow B t m v n xs)(i:δ w.1.size w c):c.ownsRow B t m v n xs:=by
 refine⟨h.1,?_⟩;rcases h.2 with f | ⟨g,d,a,e,j,b,r⟩
 ·exact .inl f
 ·exact .inr ⟨g,d,a,e,j,by rw[i.block g (Array.getElem?_eq_some_iff.1 b).1];exact b,r⟩
def Lk(r:(Tk×Nat×List ByteArray)×Int)(w':ω)(B:Nat)(e:Ending):Prop:=∃(a:Option η) (c:Nat) (u:Option η) (uc:Nat),e=ρ (κ #[σ a r.1.1.L.length c,J Z r.1.1.lim,J Z r.1.1.mode,J Z r.1.1.A,J Z r.1.1.B,J Z r.1.1.C,J Z r.1.1.D,J Z r.1.1.coast,J Z r.1.1.fr,σ u r.1.2.2.length uc,J Z (r.1.2.1:Int),J Z r.2])/\ax w' B r.1.1.L a c/\w'.ownsRow B 9 1 (σ u r.1.2.2.length uc) r.1.2.2.length (r.1.2.2.map .string)
structure jw (w wx:ω) (ob:Nat) (t:Tk) (a:Option η) (c:Nat) (T:List ByteArray) (u:Option η) (uc:Nat) (q:Nat):Prop where
 blk:Blk wx ob [σ a t.L.length c,J Z t.lim,J Z t.mode,J Z t.A,J Z t.B,J Z t.C,J Z t.D,J Z t.coast,J Z t.fr,σ u T.length uc,J Z (q:Int),J Z 0] 46
 sky:ax wx w.1.size t.L a c
 ne:∀x,a=ς x->x.block≠ob
 n1:∀x,a=ς x->x.block≠w.1.size+1
 row:wx.ownsRow (ob+1) 9 1 (σ u T.length uc) T.length (T.map .string)
 res:Blk wx (w.1.size+1) [σ ν 0 0,J Z 0,J Z 0,J Z 0,J Z 0,J Z 0,J Z 0,J Z 0,J Z 0,σ ν 0 0,J Z 0,J Z 0] 46
 bel:δ w.1.size w wx
 hb:w.1.size+1<ob
section
variable {w wx wy:ω} {ob:Nat} {t:Tk} {a:Option η} {c:Nat} {T:List ByteArray} {u:Option η} {uc:Nat} {q:Nat}
theorem jw.kept(h:jw w wx ob t a c T u uc q)(b:δ wx.1.size wx wy):jw w wy ob t a c T u uc q:=⟨h.blk.kept b,h.sky.kept b,h.ne,h.n1,Hw h.row b,h.res.kept b,ak h.bel b,h.hb⟩
theorem jw.drewn(h:jw w wx ob t a c T u uc q):jw w wx.drew ob t a c T u uc q:=⟨h.blk,h.sky,h.ne,h.n1,h.row,h.res,h.bel.drew,h.hb⟩
theorem jw.low(h:jw w wx ob t a c T u uc q):w.1.size<=ob:=Nat.le_of_lt (Nat.lt_trans (ϐ _) h.hb)
theorem jw.out(h:jw w wx ob t a c T u uc q):∀z,(Value.slice u T.length uc).ownBlock=ς z->z≠ob:=fun z b=>by have:=(h.row.lt z b).1;omega
theorem jw.at{q2:Nat}(h:jw w wx ob t a c T u uc q):jw w (wx.setCell ⟨ob,10,ν⟩ (J Z (q2:Int))) ob t a c T u uc q2:=
 ⟨h.blk.set 10 _,h.sky.off h.ne _ _,h.ne,h.n1,gC h.row h.out _ _,h.res.other _ _ (Nat.ne_of_lt h.hb),h.bel.setCell h.low _,h.hb⟩
theorem jw.put{t2:Tk}{a2:Option η}{c2:Nat}(h:jw w wx ob t a c T u uc q)(e:ax wx w.1.size t2.L a2 c2)(d:∀x,a2=ς x->x.block≠ob)(b:∀x,a2=ς x->x.block≠w.1.size+1):jw w (((((((((wx.setCell ⟨ob,0,ν⟩ (σ a2 t2.L.length c2)).setCell ⟨ob,1,ν⟩ (J Z t2.lim)).setCell ⟨ob,2,ν⟩ (J Z t2.mode)).setCell ⟨ob,3,ν⟩ (J Z t2.A)).setCell ⟨ob,4,ν⟩ (J Z t2.B)).setCell ⟨ob,5,ν⟩ (J Z t2.C)).setCell ⟨ob,6,ν⟩ (J Z t2.D)).setCell ⟨ob,7,ν⟩ (J Z t2.coast)).setCell ⟨ob,8,ν⟩ (J Z t2.fr)) ob t2 a2 c2 T u uc q:=by
 refine⟨((((((((h.blk.set 0 _).set 1 _).set 2 _).set 3 _).set 4 _).set 5 _).set 6 _).set 7 _).set 8 _,Bt e d _ _ _ _ _ _ _ _ _,d,b,?_,?_,mc h.bel h.low _ _ _ _ _ _ _ _ _,h.hb⟩
 ·iterate 8 (refine gC ?_ h.out _ _)
  exact gC h.row h.out _ _
 ·iterate 8 (refine Blk.other ?_ _ _ (Nat.ne_of_lt h.hb))
  exact h.res.other _ _ (Nat.ne_of_lt h.hb)
theorem jw.mid(h:jw w wx ob t a c T u uc q)(b:wx.grownBy wy (Value.slice u T.length uc).ownBlock):Blk wy ob [σ a t.L.length c,J Z t.lim,J Z t.mode,J Z t.A,J Z t.B,J Z t.C,J Z t.D,J Z t.coast,J Z t.fr,σ u T.length uc,J Z (q:Int),J Z 0] 46:=nh h.blk b (fun e=>h.out ob e.symm rfl)
theorem jw.app{x:ByteArray}{g:Option η}{d:Nat}(h:jw w wx ob t a c T u uc q)(f:wx.grownBy wy (Value.slice u T.length uc).ownBlock)(j:wy.ownsRow (ob+1) 9 1 (σ g (T.length+1) d) (T.length+1) (T.map τ ++ [τ x])):jw w (wy.setCell ⟨ob,9,ν⟩ (σ g (T.length+1) d)) ob t a c (T ++ [x]) g d q:=by
 have i:(T ++ [x]).length=T.length+1:=by simp
 have l:(T ++ [x]).map Value.string=T.map τ ++ [τ x]:=by simp
 have k:∀b,b<ob+1->ς b≠(Value.slice u T.length uc).ownBlock:=fun b n e=>by have:=(h.row.lt b e.symm).1;omega
 refine⟨by rw[i];exact(h.mid f).set 9 _,ax.off (World.ownsRow.kept h.sky f (Kf h.sky h.row (by decide))) h.ne _ _,h.ne,h.n1,?_,?_,?_,h.hb⟩
 ·rw[i,l];exact gC j (fun z m=>by have:=(j.lt z m).1;omega) _ _
 ·exact(nh h.res f (k _ (by have:=h.hb;omega))).other _ _ (Nat.ne_of_lt h.hb)
 ·exact(ol h.bel (eW h.row (by have:=h.low;omega)) f h.bel.size).setCell h.low _
end
theorem ea{L:List μ}(h:Blk W b L t)(o:L.length=12)(d e f g i j k l m n a c:μ):Blk ((((((((((((W.setCell ⟨b,0,ν⟩ (d)).setCell ⟨b,1,ν⟩ (e)).setCell ⟨b,2,ν⟩ (f)).setCell ⟨b,3,ν⟩ (g)).setCell ⟨b,4,ν⟩ (i)).setCell ⟨b,5,ν⟩ (j)).setCell ⟨b,6,ν⟩ (k)).setCell ⟨b,7,ν⟩ (l)).setCell ⟨b,8,ν⟩ (m)).setCell ⟨b,9,ν⟩ (n)).setCell ⟨b,10,ν⟩ (a)).setCell ⟨b,11,ν⟩ (c)) b [d,e,f,g,i,j,k,l,m,n,a,c] t:=by
 match L,o with
 | [x0,x1,x2,x3,x4,x5,x6,x7,x8,x9,x10,x11],_=>exact(((((((((((h.set 0 _).set 1 _).set 2 _).set 3 _).set 4 _).set 5 _).set 6 _).set 7 _).set 8 _).set 9 _).set 10 _).set 11 _
theorem cg{n:Nat}(h:δ n w W)(d:n<=b)(e f g i j k l m o p a c:μ):δ n w ((((((((((((W.setCell ⟨b,0,ν⟩ (e)).setCell ⟨b,1,ν⟩ (f)).setCell ⟨b,2,ν⟩ (g)).setCell ⟨b,3,ν⟩ (i)).setCell ⟨b,4,ν⟩ (j)).setCell ⟨b,5,ν⟩ (k)).setCell ⟨b,6,ν⟩ (l)).setCell ⟨b,7,ν⟩ (m)).setCell ⟨b,8,ν⟩ (o)).setCell ⟨b,9,ν⟩ (p)).setCell ⟨b,10,ν⟩ (a)).setCell ⟨b,11,ν⟩ (c)):=by
 iterate 11 (refine Below.setCell ?_ d _)
 exact h.setCell d _
theorem gg{B:Nat}{L:List St}(h:ax W B L a c)(f:∀x,a=ς x->x.block≠b)(g i j k l m n o p q d e:μ):ax ((((((((((((W.setCell ⟨b,0,ν⟩ (g)).setCell ⟨b,1,ν⟩ (i)).setCell ⟨b,2,ν⟩ (j)).setCell ⟨b,3,ν⟩ (k)).setCell ⟨b,4,ν⟩ (l)).setCell ⟨b,5,ν⟩ (m)).setCell ⟨b,6,ν⟩ (n)).setCell ⟨b,7,ν⟩ (o)).setCell ⟨b,8,ν⟩ (p)).setCell ⟨b,9,ν⟩ (q)).setCell ⟨b,10,ν⟩ (d)).setCell ⟨b,11,ν⟩ (e)) B L a c:=by
 iterate 11 (refine ax.off ?_ f _ _)
 exact h.off f _ _
theorem gt{B n:Nat}(h:W.ownsRow B t m v n xs)(d:∀z,v.ownBlock=ς z->z≠b)(e f g i j k l o p q a c:μ):World.ownsRow ((((((((((((W.setCell ⟨b,0,ν⟩ (e)).setCell ⟨b,1,ν⟩ (f)).setCell ⟨b,2,ν⟩ (g)).setCell ⟨b,3,ν⟩ (i)).setCell ⟨b,4,ν⟩ (j)).setCell ⟨b,5,ν⟩ (k)).setCell ⟨b,6,ν⟩ (l)).setCell ⟨b,7,ν⟩ (o)).setCell ⟨b,8,ν⟩ (p)).setCell ⟨b,9,ν⟩ (q)).setCell ⟨b,10,ν⟩ (a)).setCell ⟨b,11,ν⟩ (c)) B t m v n xs:=by
 iterate 11 (refine gC ?_ d _ _)
 exact gC h d _ _
theorem Fb(g:s.size<=8000):∃(x:ByteArray) (y z:Int),fc s (q:Int)=κ #[τ x,J Z y,J Z z]/\x.size<=8000 /\
  ((dM s q=ν/\z≠0)\/∃d:Nat,dM s q=ς (x,d)/\y=(d:Int)/\z=0):=by
 obtain⟨x,y,z,a,e⟩:=ss (q:=q) g;refine⟨x,y,z,a,?_,e⟩;rcases e with ⟨b,_⟩ | ⟨d,b,_⟩
 ·unfold fc at a;rw[if_neg (by omega)]at a;unfold dM at b;cases f:bR s (q:Int) with
  | error c=>rw[f]at a;simp[uu]at a;rw[<-a.1];exact ϑ _
  | ok y=>rw[f]at b;cases b
 ·exact ώ (oC b).2.1 g
theorem KL{t:Tk}(h:s.size<=q):eG s t q=ν:=by
 cases e:dM s q with
 | none=>exact AP e
 | some y=>exact absurd (oC (x:=y.1) (q2:=y.2) e).2.2 (by omega)
theorem jH{B n:Nat}{a:List μ}(h:Blk w b a t)(i:w.ownsRow B t' m v n xs)(j:t≠t'):ς b≠v.ownBlock:=fun e=>by
 rcases i.2 with ⟨rfl,_⟩ | ⟨g,d,f,rfl,_,c,_⟩
 ·cases e
 ·obtain rfl:b=g:=ό e;rw[show w.heap[b]? = ς (ξ a.toArray t (0,0)) from h]at c;injection c with e1;injection e1 with _ e2;exact j e2
theorem rz(w:ω)(x:ByteArray)(t:TypeId):∀(j:Nat) (u:μ),[Value.string x][j]? = ς u->(w.alloc (ξ #[τ x] t)).cell? ((⟨w.1.size,0,ν⟩:η).add j)=ς u:=gp w [τ x] t
theorem rL:∃i:TypeInfo,prog.info? 9=ς i/\i.zero=ς (τ ⟨#[]⟩)/\i.size=1/\i.bytes=16:=info_parts (show (prog.info? 9).map (fun i=>(i.zero,i.size,i.bytes))=ς (ς (τ ⟨#[]⟩),1,16) by kernel_rfl)
theorem ip{B:Nat}{L:List St}(h:ax W B L a c)(d:b<B\/W.1.size<=b):∀x,a=ς x->x.block≠b:=fun x e=>by have:=h.block x e;omega
end
section
open Go.ChangeShapes Go.WideShapes Go.ChangeAt Go.RowKit Go.Joins Go.Deep
theorem zd : "*" ++ "errors.errorString" = "*errors.errorString" := by decide
theorem rowC (u : TypeId) (h : Tryz.prog.typeName? 3 u = some "*errors.errorString") : u = 291 :=
 typeName_ptr_named (nm := "errors.errorString") (by rw [zd]; kernel_rfl) (by kernel_rfl) (by decide) u (by rw [zd]; exact h)
theorem qg : Tryz.prog.globalNamed "loop.example/g00577/impl.errNoCommand" = some 0 := by kernel_rfl
theorem Fu:(prog.globals[0]?).map (·.type)=ς 123:=by kernel_rfl
theorem oV {W : World} {p : Addr} (hv : W.var? Tryz.prog "loop.example/g00577/impl.errNoCommand" = some #[.iface 291 (.pointer (some p))]) : dw p W := by
 unfold dw;rw[World.var?_cell qg hv 0];rfl
end
section
open Go.RowKit Go.Deep Go.ChangeShapes
def vH : List (String × DataW Unit) := [("loop.example/g00577/impl.errNoSky", Rows.laid_loop_example_g00577_impl_errNoSky), ("loop.example/g00577/impl.errNoCommand", Rows.laid_loop_example_g00577_impl_errNoCommand)]
theorem xB{P:Program}{x:String×DataW Unit}{l:List (String×DataW Unit)}{w:ω}(h:laidMet P (x :: l) w):laidMet P l w:=by
 obtain⟨s,⟨g,t,k,f,p,q,n,o,r,m,j,e⟩,i,a⟩:=h;subst e;exact⟨q,j,(List.nodup_append.1 i).2.1,fun b c d=>a b c (List.mem_append_right _ d)⟩
variable {W:ω}
theorem De {r : List (String × DataW Unit)} (h : laidMet Tryz.prog (("loop.example/g00577/impl.errNoSky", Rows.laid_loop_example_g00577_impl_errNoSky) :: r) W) : ∃ p, W.var? Tryz.prog "loop.example/g00577/impl.errNoSky" = some #[.iface 291 (.pointer (some p))] := by
 obtain⟨a,s,hv,_⟩:=laid_sentinel h ql FA underlying123 rowE underlying291 underlying311 rfl rfl underlying9 (by kernel_rfl) (by kernel_rfl);exact⟨a,hv⟩
theorem Bo {r : List (String × DataW Unit)} (h : laidMet Tryz.prog (("loop.example/g00577/impl.errNoCommand", Rows.laid_loop_example_g00577_impl_errNoCommand) :: r) W) : ∃ p, W.var? Tryz.prog "loop.example/g00577/impl.errNoCommand" = some #[.iface 291 (.pointer (some p))] := by
 obtain⟨a,s,hv,_⟩:=laid_sentinel h qg Fu underlying123 rowC underlying291 underlying311 rfl rfl underlying9 (by kernel_rfl) (by kernel_rfl);exact⟨a,hv⟩
end
section
open Go.ChangeShapes Go.WideShapes Go.RowKit
theorem IX : Tryz.prog.globalNamed "errors.errorType" = some 2 := by kernel_rfl
theorem Ks : (Tryz.prog.cutTypes.find? (·.1 == "internal/reflectlite.rtype")).map (·.2) = some 230 := by kernel_rfl
theorem MY:((List.range 323).filter fun t=>prog.rowNamed t [101,114,114,111,114])=[123]:=by kernel_rfl
theorem Is:prog.types.size=323:=by kernel_rfl
end
section
open Go.RowKit Go.Deep Go.ChangeShapes
def rM : List (String × DataW Unit) := ("errors.errorType", Rows.laid_errors_errorType) :: vH
variable {W:ω}
theorem Jz (h : laidMetH Tryz.prog rM W) : laidMet Tryz.prog vH W := (show laidMet Tryz.prog vH W ∧ handlesMet Tryz.prog [("errors.errorType", Rows.laid_errors_errorType)] W from h).1
theorem MR(h:laidMetH prog rM W):gX W:=by
 obtain ⟨name, u, ty, e1, e2, e3, e4, e5⟩ := (show laidMet Tryz.prog vH W ∧ handlesMet Tryz.prog [("errors.errorType", Rows.laid_errors_errorType)] W from h).2 _ (List.mem_singleton.2 rfl);have en : name = [101, 114, 114, 111, 114] := (Option.some.inj e1).symm;subst en;obtain rfl := Option.some.inj (Ks.symm.trans e2);have hm : ty ∈ (List.range 323).filter fun t => Tryz.prog.rowNamed t [101, 114, 114, 111, 114] := List.mem_filter.2 ⟨List.mem_range.2 (by rw [← Is]; exact e3), e4⟩;rw [MY] at hm;obtain rfl := List.mem_singleton.1 hm;have hh : typeHandle Tryz.prog 123 = .pointer (some ⟨3, 123, none⟩) := by kernel_rfl
 rw[hh]at e5;simpa[gX] using World.var?_cell IX e5 0
theorem MS(os:Os)(args:Array μ):laidMetH prog rM ((World.doorLaid prog 400 os).forCall (fun _ _=>0) ⟨#[],args,[]⟩).memory:=
 laidMetH_of_parts (laidMet_of_run' 8 (by kernel_rfl) (by kernel_rfl)) (by kernel_rfl)
end
end Go.Proofs.YtnnhjegapofopaaGreatDoor
