import Derived.WalkMore
import Derived.Lib.ItoaMem
import Derived.Lib.Join
import Derived.Test.YtnnhjegapofopaaGreatDoorM4
import Derived.Test.YtnnhjegapofopaaGreatDoorM6
import Derived.Test.YtnnhjegapofopaaGreatDoorM7
namespace Go.Proofs.YtnnhjegapofopaaGreatDoor
set_option linter.all false
set_option maxRecDepth 100000
set_option maxHeartbeats 8000000
open Go.RowKit Go.Sort Go.Proofs.Tryz
open Go.Value renaming int -> J,slice -> σ,string -> τ,agg -> κ,pointer -> π
open Go.Obj renaming cells -> ξ
open Go.Ending renaming returned -> ρ
open Go renaming World -> ω,Value -> μ,Calls -> χ,Addr -> η,bodyPost_ret -> ϊ
open Go.RowKit renaming Below -> δ,intOf -> ϋ
open Option renaming none -> ν,some -> ς
open Option.some renaming inj -> ό
open Nat renaming le_refl -> ύ,le_trans -> ώ,lt_of_lt_of_le -> Ϗ,lt_succ_self -> ϐ
open Go.IntKind renaming i64 -> Z
section
def tA(L:List T4)(i:Nat):T4:=L.getD i (0,0,0,0)
theorem Jb:∀(S:List T4) (k:Nat) (b:T4),S[k]? = ς b->∀j u,(zi b)[j]? = ς u->(fi S)[k*4+j]? = ς u:=by
 intro S
 induction S with
 | nil=>intro k b h;simp at h
 | cons x S ih=>
  intro k b h j u a;have e:fi (x :: S)=zi x ++ fi S:=by unfold fi;simp
  have c:j<4:=(List.getElem?_eq_some_iff.1 a).1;rw[e];cases k with
  | zero=>
   simp at h;subst h;rw[List.getElem?_append_left (by show _<4;omega)];simpa using a
  | succ k=>
   rw[List.getElem?_append_right (by show 4<=_;omega)];rw[show (k+1)*4+j-(zi x).length=k*4+j by show _-4=_;omega];exact ih k b (by simpa using h) j u a
def nf(w:ω)(g:Nat)(L:List T4):Prop:=g<w.1.size/\∀k,k<L.length->w.cell? ⟨g,k*4,ν⟩=ς (J Z (tA L k).1)/\w.cell? ⟨g,k*4+1,ν⟩=ς (J Z (tA L k).2.1)/\w.cell? ⟨g,k*4+2,ν⟩=ς (J Z (tA L k).2.2.1)/\w.cell? ⟨g,k*4+3,ν⟩=ς (J Z (tA L k).2.2.2)
variable {w:ω}
theorem nf.kept{b:ω}{g:Nat}{L:List T4}(h:nf w g L)(a:δ w.1.size w b):nf b g L:=by
 refine⟨Ϗ h.1 a.size,fun k i=>?_⟩;obtain⟨c,d,e,f⟩:=h.2 k i;exact⟨by rw[a.cell (p:=⟨g,k*4,ν⟩) h.1];exact c,by rw[a.cell (p:=⟨g,k*4+1,ν⟩) h.1];exact d,by rw[a.cell (p:=⟨g,k*4+2,ν⟩) h.1];exact e,by rw[a.cell (p:=⟨g,k*4+3,ν⟩) h.1];exact f⟩
theorem zj{B:Nat}{v:μ}{L:List T4}(h:w.ownsRow B 24 4 v L.length (fi L))(x:0<L.length):∃g c,v=σ (ς ⟨g,0,ν⟩) L.length c/\B<=g/\nf w g L:=by
 rcases h.2 with ⟨y,n⟩ | ⟨g,d,f,t,o,l,s,p,q,a⟩
 ·omega
 ·refine⟨g,d,t,o,(Array.getElem?_eq_some_iff.1 l).1,fun k r=>?_⟩;have i:L[k]? = ς (tA L k):=by unfold tA;rw[List.getD,List.getElem?_eq_getElem r];rfl
  have b:∀j u,(zi (tA L k))[j]? = ς u->w.cell? ⟨g,k*4+j,ν⟩=ς u:=by
   intro j u m;have z:j<4:=(List.getElem?_eq_some_iff.1 m).1;have e:=Jb L k _ i j u m;rw[cell_of_row w g _ f _ _ l];rw[<-a,List.getElem?_take,if_pos (by omega)]at e;simpa using e
  exact⟨b 0 _ rfl,b 1 _ rfl,b 2 _ rfl,b 3 _ rfl⟩
end
section
theorem wu(T:Array μ)(X:ω)(b:Nat)(v:μ)(lim d A B C D a e c:Int)(f:T.getD 2 undef=π (ς ⟨b,0,ν⟩))(h:TkO X b v lim d A B C D a e c):(results f101 T).run prog X=.ok (κ #[v,J Z lim,J Z d,J Z A,J Z B,J Z C,J Z D,J Z a,J Z e,J Z c]) X:=by
 obtain⟨⟨g,i,j,k,l,m,n,o,p⟩,q⟩:=h;simp only[Array.getD_eq_getD_getElem?]at f;simp[results,results101,go_sem,f,g,i,j,k,l,m,n,o,p,q]
theorem wt(T:Array μ)(X:ω)(b:Nat)(v:μ)(lim d A B C D a e c:Int)(f:T.getD 2 undef=π (ς ⟨b,0,ν⟩))(h:TkO X b v lim d A B C D a e c):(results f110 T).run prog X=.ok (κ #[v,J Z lim,J Z d,J Z A,J Z B,J Z C,J Z D,J Z a,J Z e,J Z c]) X:=by
 obtain⟨⟨g,i,j,k,l,m,n,o,p⟩,q⟩:=h;simp only[Array.getD_eq_getD_getElem?]at f;simp[results,results110,go_sem,f,g,i,j,k,l,m,n,o,p,q]
theorem qL(T:Array μ)(X:ω)(b:Nat)(v:μ)(lim d A B C D a e c:Int)(f:T.getD 4 undef=π (ς ⟨b,0,ν⟩))(h:TkO X b v lim d A B C D a e c):(results f91 T).run prog X=.ok (κ #[v,J Z lim,J Z d,J Z A,J Z B,J Z C,J Z D,J Z a,J Z e,J Z c]) X:=by
 obtain⟨⟨g,i,j,k,l,m,n,o,p⟩,q⟩:=h;simp only[Array.getD_eq_getD_getElem?]at f;simp[results,results91,go_sem,f,g,i,j,k,l,m,n,o,p,q]
def jy(w':ω)(B:Nat)(t:Tk)(code:Int)(e:Ending):Prop:=∃a cap,e=ρ (κ #[σ a t.L.length cap,J Z t.lim,J Z t.mode,J Z t.A,J Z t.B,J Z t.C,J Z t.D,J Z t.coast,J Z t.fr,J Z code])/\ax w' B t.L a cap
theorem hZ(w:ω)(B:Nat):ax w B [] ν 0:=⟨rfl,.inl ⟨rfl,rfl⟩⟩
theorem du(w:ω)(B:Nat)(a:Int):jy w B dW a (ρ (κ #[σ ν 0 0,J Z 0,J Z 0,J Z 0,J Z 0,J Z 0,J Z 0,J Z 0,J Z 0,J Z a])):=⟨ν,0,rfl,hZ w B⟩
def fJ(t:Tk):Tk:=if aM t=true then FL t else dW
def gv(t:Tk):Int:=if aM t=true then 0 else 1
variable {code:Int} {b:Nat} {v:μ} {w:ω}
theorem TkO.far{lim c A B C D a f:Int}(h:TkO w b v lim c A B C D a f code){e:Nat}(d:b≠e)(o:Nat)(x:μ):TkO (w.setCell ⟨e,o,ν⟩ x) b v lim c A B C D a f code:=⟨h.1.far d o x,by rw[World.cell?_setCell_far _ _ _ _ (Ne.symm d)];exact h.2⟩
theorem TkO.lt{lim c A B C D a d:Int}(h:TkO w b v lim c A B C D a d code):b<w.1.size:=h.1.lt
theorem xK(L:List St)(lim d A B C D b g:Int)(j:Option η)(c:Nat)(w:ω)(hn:L.length<=1048576)(hS:aO w j L L.length):
  χ prog 101 #[κ #[σ j L.length c,J Z lim,J Z d,J Z A,J Z B,J Z C,J Z D,J Z b,J Z g]] w fun e w'=>jy w' w.1.size (fJ ⟨L,lim,d,A,B,C,D,b,g⟩) (gv ⟨L,lim,d,A,B,C,D,b,g⟩) e/\δ w.1.size w w':=by
 have x:=aJ w (ξ #[σ j L.length c,J Z lim,J Z d,J Z A,J Z B,J Z C,J Z D,J Z b,J Z g] 38) (ξ #[σ ν 0 0,J Z 0,J Z 0,J Z 0,J Z 0,J Z 0,J Z 0,J Z 0,J Z 0,J Z 0] 52);have T0:=(eH w (σ j L.length c) lim d A B C D b g 38).kept (an _ (ξ #[σ ν 0 0,J Z 0,J Z 0,J Z 0,J Z 0,J Z 0,J Z 0,J Z 0,J Z 0,J Z 0] 52));have R0:=(by simpa using rh (w.alloc (ξ #[σ j L.length c,J Z lim,J Z d,J Z A,J Z B,J Z C,J Z D,J Z b,J Z g] 38)) (σ ν 0 0) 0 0 0 0 0 0 0 0 0 52:TkO ((w.alloc (ξ #[σ j L.length c,J Z lim,J Z d,J Z A,J Z B,J Z C,J Z D,J Z b,J Z g] 38)).alloc (ξ #[σ ν 0 0,J Z 0,J Z 0,J Z 0,J Z 0,J Z 0,J Z 0,J Z 0,J Z 0,J Z 0] 52)) (w.1.size+1) (σ ν 0 0) 0 0 0 0 0 0 0 0 0)
 have G0:=(by simpa using fq (w.alloc (ξ #[σ j L.length c,J Z lim,J Z d,J Z A,J Z B,J Z C,J Z D,J Z b,J Z g] 38)) #[σ ν 0 0,J Z 0,J Z 0,J Z 0,J Z 0,J Z 0,J Z 0,J Z 0,J Z 0,J Z 0] 52:iC ((w.alloc (ξ #[σ j L.length c,J Z lim,J Z d,J Z A,J Z B,J Z C,J Z D,J Z b,J Z g] 38)).alloc (ξ #[σ ν 0 0,J Z 0,J Z 0,J Z 0,J Z 0,J Z 0,J Z 0,J Z 0,J Z 0,J Z 0] 52)) (w.1.size+1))
 have r:w.1.size+2<=((w.alloc (ξ #[σ j L.length c,J Z lim,J Z d,J Z A,J Z B,J Z C,J Z D,J Z b,J Z g] 38)).alloc (ξ #[σ ν 0 0,J Z 0,J Z 0,J Z 0,J Z 0,J Z 0,J Z 0,J Z 0,J Z 0,J Z 0] 52)).1.size:=by simp
 have S0:=hS.kept x;have cR:=yz (fun W h=>fh L lim d A B C D b g j c W hn h);have cC:=yz (fun W h=>kO L lim d A B C D b g j c W hn h);have HB:=yz x;have HT:=yz T0;have y:=yz R0;have HG:=yz G0;have z:=yz S0;clear x T0 R0 G0 S0 hS;go_enter func101,ntmps101;go_wp2_with fail;generalize (w.alloc (ξ #[σ j L.length c,J Z lim,J Z d,J Z A,J Z B,J Z C,J Z D,J Z b,J Z g] 38)).alloc (ξ #[σ ν 0 0,J Z 0,J Z 0,J Z 0,J Z 0,J Z 0,J Z 0,J Z 0,J Z 0,J Z 0] 52)=W at *;refine(yx cR _ (yx z)).mono ?_;rintro e w1 ⟨rfl,f⟩;have s:=aB HB f;have T1:=ap HT f;have o:=ap y f;have u:=yz ((yx HG).kept (yx y).lt f);have S1:=ap z f;have aa:w.1.size+2<=w1.1.size:=ώ r f.size;clear f HB HT y HG z r cR;cases q:aM ⟨L,lim,d,A,B,C,D,b,g⟩
 ·have l:Hid (fJ ⟨L,lim,d,A,B,C,D,b,g⟩=dW):=yz (by unfold fJ;rw[q];rfl);have m:Hid (gv ⟨L,lim,d,A,B,C,D,b,g⟩=1):=yz (by unfold gv;rw[q];rfl);go_wp2_with fail;refine(ee 1 _).mono ?_;rintro e w2 ⟨rfl,f⟩;have t:=aB s f;have p:=ap o f;have i:=yz ((yx u).kept (yx o).lt f);clear f s o u;obtain⟨⟨Q,R,S,T,U,V,X,Y,r8⟩,r9⟩:=yx p;have E:=yx i 0;have F:=yx i 1;have G:=yx i 2;have H:=yx i 3;have I:=yx i 4;have K:=yx i 5;have M:=yx i 6;have N:=yx i 7;have O:=yx i 8;have P:=yx i 9;go_wp2_with fail;clear Q R S T U V X Y r8 r9 E F G H I K M N O P;refine ϊ (v:=κ #[σ ν 0 0,J Z 0,J Z 0,J Z 0,J Z 0,J Z 0,J Z 0,J Z 0,J Z 0,J Z 1]) ?_ rfl ⟨?_,?_⟩
  ·refine wu _ _ (w.1.size+1) _ 0 0 0 0 0 0 0 0 1 rfl ?_;exact dH (yx p) _ _ _ _ _ _ _ _ _ _
  ·rw[yx l,yx m];exact du _ _ _
  ·iterate 10 (refine aF ?_ (Nat.le_succ _) _ _)
   exact yx t
 ·have l:Hid (fJ ⟨L,lim,d,A,B,C,D,b,g⟩=⟨L,lim,0,0,0,0,0,0,g⟩):=yz (by unfold fJ;rw[q];rfl);have m:Hid (gv ⟨L,lim,d,A,B,C,D,b,g⟩=0):=yz (by unfold gv;rw[q];rfl);clear q;obtain⟨s0,s1,s2,s3,s4,s5,s6,s7,s8⟩:=yx T1;go_wp2_with fail;clear s0 s1 s2 s3 s4 s5 s6 s7 s8;refine(yx cC _ (yx S1)).mono ?_;rintro e w2 ⟨a,n,rfl,hC,f⟩;have t:=aB s f;have p:=ap o f;have i:=yz ((yx u).kept (yx o).lt f);have C2:=yz (hC.low (B':=w.1.size+2) (by omega));clear f hC s o u T1 S1 cC;go_wp2_with fail;refine(kP lim d A B C D b g a L.length n _).mono ?_;rintro e w3 ⟨rfl,f⟩;have B3:=aB t f;have R3:=ap p f;have k:=yz ((yx i).kept (yx p).lt f);have C3:=ap C2 f;clear f t p i C2;obtain⟨⟨Q,R,S,T,U,V,X,Y,r8⟩,r9⟩:=yx R3;have E:=yx k 0;have F:=yx k 1;have G:=yx k 2;have H:=yx k 3;have I:=yx k 4;have K:=yx k 5;have M:=yx k 6;have N:=yx k 7;have O:=yx k 8;have P:=yx k 9;go_wp2_with fail;clear Q R S T U V X Y r8 r9 E F G H I K M N O P;refine ϊ (v:=κ #[σ a L.length n,J Z lim,J Z 0,J Z 0,J Z 0,J Z 0,J Z 0,J Z 0,J Z g,J Z 0]) ?_ rfl ⟨?_,?_⟩
  ·refine wu _ _ (w.1.size+1) _ lim 0 0 0 0 0 0 g 0 rfl ?_;exact dH (yx R3) _ _ _ _ _ _ _ _ _ _
  ·rw[yx l,yx m];refine⟨a,n,rfl,?_⟩;refine ax.low (B:=w.1.size+2) ?_ (by omega);iterate 10 (refine ax.far ?_ (show w.1.size+1<w.1.size+2 by omega) _ _)
   exact yx C3
  ·iterate 10 (refine aF ?_ (Nat.le_succ _) _ _)
   exact yx B3
end
theorem mO(L:List St)(lim d A B C D b h:Int)(f:Option η)(c:Nat)(w:ω)(hn:L.length<=1048576)(hS:aO w f L L.length):
  χ prog 48 #[κ #[σ f L.length c,J Z lim,J Z d,J Z A,J Z B,J Z C,J Z D,J Z b,J Z h]] w fun e j=>∃a k,e=ρ (κ #[σ a L.length k,J Z lim,J Z d,J Z A,J Z B,J Z C,J Z D,J Z b,J Z h])/\ax j (w.1.size+2) L a k/\δ w.1.size w j:=by
 have R:=aJ w (ξ #[σ f L.length c,J Z lim,J Z d,J Z A,J Z B,J Z C,J Z D,J Z b,J Z h] 38) (ξ #[σ ν 0 0,J Z 0,J Z 0,J Z 0,J Z 0,J Z 0,J Z 0,J Z 0,J Z 0] 84);have S1:=yz (hS.kept R);have S0:=(eH w (σ f L.length c) lim d A B C D b h 38).kept (an _ (ξ #[σ ν 0 0,J Z 0,J Z 0,J Z 0,J Z 0,J Z 0,J Z 0,J Z 0,J Z 0] 84));have R0:=(by simpa using eH (w.alloc (ξ #[σ f L.length c,J Z lim,J Z d,J Z A,J Z B,J Z C,J Z D,J Z b,J Z h] 38)) (σ ν 0 0) 0 0 0 0 0 0 0 0 84:fD ((w.alloc (ξ #[σ f L.length c,J Z lim,J Z d,J Z A,J Z B,J Z C,J Z D,J Z b,J Z h] 38)).alloc (ξ #[σ ν 0 0,J Z 0,J Z 0,J Z 0,J Z 0,J Z 0,J Z 0,J Z 0,J Z 0] 84)) (w.1.size+1) (σ ν 0 0) 0 0 0 0 0 0 0 0)
 have G0:=(by simpa using fq (w.alloc (ξ #[σ f L.length c,J Z lim,J Z d,J Z A,J Z B,J Z C,J Z D,J Z b,J Z h] 38)) #[σ ν 0 0,J Z 0,J Z 0,J Z 0,J Z 0,J Z 0,J Z 0,J Z 0,J Z 0] 84:iC ((w.alloc (ξ #[σ f L.length c,J Z lim,J Z d,J Z A,J Z B,J Z C,J Z D,J Z b,J Z h] 38)).alloc (ξ #[σ ν 0 0,J Z 0,J Z 0,J Z 0,J Z 0,J Z 0,J Z 0,J Z 0,J Z 0] 84)) (w.1.size+1))
 have HB:=yz R;have HS:=yz S0;have HR:=yz R0;have HG:=yz G0;have X:((w.alloc (ξ #[σ f L.length c,J Z lim,J Z d,J Z A,J Z B,J Z C,J Z D,J Z b,J Z h] 38)).alloc (ξ #[σ ν 0 0,J Z 0,J Z 0,J Z 0,J Z 0,J Z 0,J Z 0,J Z 0,J Z 0] 84)).1.size=w.1.size+2:=by simp
 clear R S0 R0 G0 hS;obtain⟨i0,Q,Y,ab,ac⟩:=info_parts oq;go_enter func48,ntmps48;go_wp2_with fail;generalize (w.alloc (ξ #[σ f L.length c,J Z lim,J Z d,J Z A,J Z B,J Z C,J Z D,J Z b,J Z h] 38)).alloc (ξ #[σ ν 0 0,J Z 0,J Z 0,J Z 0,J Z 0,J Z 0,J Z 0,J Z 0,J Z 0] 84)=W at *;obtain⟨q,r,s,t,x,y,z,E,F⟩:=yx HS;refine wp_region_held_drew (S:=(fun j=>j.cell? ⟨w.1.size,0,ν⟩=ς (σ f L.length c)/\j.cell? ⟨w.1.size,1,ν⟩=ς (J Z lim)/\j.cell? ⟨w.1.size,2,ν⟩=ς (J Z d)/\j.cell? ⟨w.1.size,3,ν⟩=ς (J Z A)/\j.cell? ⟨w.1.size,4,ν⟩=ς (J Z B)/\j.cell? ⟨w.1.size,5,ν⟩=ς (J Z C)/\j.cell? ⟨w.1.size,6,ν⟩=ς (J Z D)/\j.cell? ⟨w.1.size,7,ν⟩=ς (J Z b)/\j.cell? ⟨w.1.size,8,ν⟩=ς (J Z h))) (by kernel_rfl) ?_ (fun p=>?_)
 ·exact⟨q,r,s,t,x,y,z,E,F⟩
 refine tkO 0 rfl ?_;refine tkO 1 rfl ?_;refine tkO 4 rfl ?_;refine tkO 5 rfl ?_;refine tkO 6 rfl ?_;refine tkO 7 rfl ?_;refine tkO 8 rfl ?_;refine tkO 9 rfl ?_;refine tkO 10 rfl ?_;refine tkO 11 rfl ?_;refine tkO 12 rfl ?_;refine tkO 13 rfl ?_;have I:aO W.drew f L L.length:=(yx S1).kept (Below.refl _ _).drew;have G:δ w.1.size w W.drew:=(yx HB).drew;have H:fD W.drew (w.1.size+1) (σ ν 0 0) 0 0 0 0 0 0 0 0:=yx HR;have T:iC W.drew (w.1.size+1):=yx HG;have ae:W.drew.1.size=w.1.size+2:=X;refine rd1 2 rfl fun K M=>?_;have o:W.drew.ownsRow (w.1.size+2) 130 4 (σ ν 0 0) 0 []:=World.ownsRow_nil _ _ _ _;have i:=iV I;refine(if_pos (by kernel_rfl)).mpr ?_;try simp only[List.getElem_toArray,List.getElem_cons_succ,List.getElem_cons_zero]
 generalize U:({ tmps:=_,defers:=_ }:Act)=aa;have N:aa.eval (Operand.const (Value.slice ν 0 0))=σ ν 0 0:=by subst U;simp[go_sem]
 have O:aa.eval (Operand.tmp 4)=σ f L.length c:=by subst U;simp[go_sem]
 refine dF W.drew (Operand.const (Value.slice ν 0 0)) (Operand.tmp 4) 36 rfl (w.1.size+2) 130 i0 (κ #[J Z 0,J Z 0,J Z 0,J Z 0]) 4 32 underlying36 Q Y ab ac rfl (by decide) (σ ν 0 0) 0 [] N o f L.length c (bC L) O (gh L) (kC I) i (fun u hu=>ia hu) ?d1 ?d2 ?d3 ?_
 case d1=>
  have:1048576<=maxLen:=by decide +kernel
  omega
 case d2=>omega
 case d3=>omega
 intro v' w1 V P;subst U;rw[Nat.zero_add,List.nil_append]at V;obtain⟨a,k,rfl,hC⟩:=nj V;have B1:=yz (dm G P G.size (fun g e=>by simp[Value.ownBlock]at e));have S2:fD w1 w.1.size (σ f L.length c) lim d A B C D b h:=fD.grown (w:=W.drew) (yx HS) P (by simp[Value.ownBlock]);have R2:=yz (H.grown P (by simp[Value.ownBlock]));have l:=yz (T.grown H.lt P (by simp[Value.ownBlock]));have C1:=yz hC;clear V P hC q r s t x y z E F;obtain⟨q,r,s,t,x,y,z,E,F⟩:=S2;refine M.out _ _ (⟨q,r,s,t,x,y,z,E,F⟩) fun m=>?_;clear M K p N O i o;try simp only[Act.put,sxA,sxB,sxC]
 refine tkO 3 rfl ?_;refine tkO 14 rfl ?_;obtain⟨r0,r1,r2,r3,r4,r5,r6,r7,r8⟩:=yx R2;have g0:=yx l 0;have g1:=yx l 1;have g2:=yx l 2;have g3:=yx l 3;have g4:=yx l 4;have g5:=yx l 5;have g6:=yx l 6;have g7:=yx l 7;have g8:=yx l 8;refine rd1 15 rfl fun K M=>?_;go_simp;have S3:Hid (fD w1 w.1.size (σ f L.length c) lim d A B C D b h):=yz ⟨q,r,s,t,x,y,z,E,F⟩;clear q r s t x y z E F r0 r1 r2 r3 r4 r5 r6 r7 r8 g0 g1 g2 g3 g4 g5 g6 g7 g8;refine M.out _ _ ?_ (fun n=>?_)
 ·show fD _ w.1.size (σ f L.length c) lim d A B C D b h;iterate 9 (refine fD.far ?_ (show w.1.size≠w.1.size+1 by omega) _ _)
  exact yx S3
 clear M K m;refine rdn ?_;clear n;go_wp2_with fail;refine ϊ (v:=κ #[σ a L.length k,J Z lim,J Z d,J Z A,J Z B,J Z C,J Z D,J Z b,J Z h]) ?_ rfl ⟨a,k,rfl,?_,?_⟩
 ·refine EH _ _ (w.1.size+1) _ lim d A B C D b h rfl ?_;exact fu (lim0:=0) (mode0:=0) (A0:=0) (B0:=0) (C0:=0) (D0:=0) (coast0:=0) (fr0:=0) (u:=σ ν 0 0) (yx R2) _ lim d A B C D b h
 ·iterate 9 (refine ax.far ?_ (show w.1.size+1<w.1.size+2 by omega) _ _)
  exact yx C1
 ·iterate 9 (refine aF ?_ (Nat.le_succ _) _ _)
  exact yx B1
theorem xr(L:List St)(lim d A B C D b g:Int)(j:Option η)(c:Nat)(p:η)(w:ω)(hn:L.length<=1048576)(x:L.length<=c)(X:c<=9223372036854775807)(hE:bQ p w)(hS:aO w j L L.length):
  χ prog 110 #[κ #[σ j L.length c,J Z lim,J Z d,J Z A,J Z B,J Z C,J Z D,J Z b,J Z g]] w fun e w'=>jy w' w.1.size (fJ ⟨L,lim,d,A,B,C,D,b,g⟩) (gv ⟨L,lim,d,A,B,C,D,b,g⟩) e/\δ w.1.size w w':=by
 have E:=aJ w (ξ #[σ j L.length c,J Z lim,J Z d,J Z A,J Z B,J Z C,J Z D,J Z b,J Z g] 38) (ξ #[σ ν 0 0,J Z 0,J Z 0,J Z 0,J Z 0,J Z 0,J Z 0,J Z 0,J Z 0,J Z 0] 52);have T0:=(eH w (σ j L.length c) lim d A B C D b g 38).kept (an _ (ξ #[σ ν 0 0,J Z 0,J Z 0,J Z 0,J Z 0,J Z 0,J Z 0,J Z 0,J Z 0,J Z 0] 52));have R0:=(by simpa using rh (w.alloc (ξ #[σ j L.length c,J Z lim,J Z d,J Z A,J Z B,J Z C,J Z D,J Z b,J Z g] 38)) (σ ν 0 0) 0 0 0 0 0 0 0 0 0 52:TkO ((w.alloc (ξ #[σ j L.length c,J Z lim,J Z d,J Z A,J Z B,J Z C,J Z D,J Z b,J Z g] 38)).alloc (ξ #[σ ν 0 0,J Z 0,J Z 0,J Z 0,J Z 0,J Z 0,J Z 0,J Z 0,J Z 0,J Z 0] 52)) (w.1.size+1) (σ ν 0 0) 0 0 0 0 0 0 0 0 0)
 have G0:=(by simpa using fq (w.alloc (ξ #[σ j L.length c,J Z lim,J Z d,J Z A,J Z B,J Z C,J Z D,J Z b,J Z g] 38)) #[σ ν 0 0,J Z 0,J Z 0,J Z 0,J Z 0,J Z 0,J Z 0,J Z 0,J Z 0,J Z 0] 52:iC ((w.alloc (ξ #[σ j L.length c,J Z lim,J Z d,J Z A,J Z B,J Z C,J Z D,J Z b,J Z g] 38)).alloc (ξ #[σ ν 0 0,J Z 0,J Z 0,J Z 0,J Z 0,J Z 0,J Z 0,J Z 0,J Z 0,J Z 0] 52)) (w.1.size+1))
 have z:w.1.size+2<=((w.alloc (ξ #[σ j L.length c,J Z lim,J Z d,J Z A,J Z B,J Z C,J Z D,J Z b,J Z g] 38)).alloc (ξ #[σ ν 0 0,J Z 0,J Z 0,J Z 0,J Z 0,J Z 0,J Z 0,J Z 0,J Z 0,J Z 0] 52)).1.size:=by simp
 have K:=hS.kept E;have cR:=yz (gQ L lim d A B C D b g j c p _ hn x X K (hE.kept E));have cC:=yz (fun W h=>mO L lim d A B C D b g j c W hn h);have HB:=yz E;have HT:=yz T0;have I:=yz R0;have HG:=yz G0;have HS:=yz K;clear E T0 R0 G0 K hS;go_enter func110,ntmps110;go_wp2_with fail;generalize (w.alloc (ξ #[σ j L.length c,J Z lim,J Z d,J Z A,J Z B,J Z C,J Z D,J Z b,J Z g] 38)).alloc (ξ #[σ ν 0 0,J Z 0,J Z 0,J Z 0,J Z 0,J Z 0,J Z 0,J Z 0,J Z 0,J Z 0] 52)=W at *;refine(yx cR).mono ?_;rintro e w1 ⟨rfl,f⟩;have F:=aB HB f;have T1:=ap HT f;have u:=ap I f;have H:=yz ((yx HG).kept (yx I).lt f);have S1:=ap HS f;have aa:w.1.size+2<=w1.1.size:=ώ z f.size;clear f HB HT I HG HS z cR;cases y:aM ⟨L,lim,d,A,B,C,D,b,g⟩
 ·have m:Hid (fJ ⟨L,lim,d,A,B,C,D,b,g⟩=dW):=yz (by unfold fJ;rw[y];rfl);have n:Hid (gv ⟨L,lim,d,A,B,C,D,b,g⟩=1):=yz (by unfold gv;rw[y];rfl);have G:=F;have q:=u;have i:=H;clear F u H;obtain⟨⟨Y,r1,r2,r3,r4,r5,r6,r7,r8⟩,r9⟩:=yx q;have M:=yx i 0;have N:=yx i 1;have O:=yx i 2;have P:=yx i 3;have Q:=yx i 4;have R:=yx i 5;have S:=yx i 6;have T:=yx i 7;have U:=yx i 8;have V:=yx i 9;go_wp2_with fail;clear Y r1 r2 r3 r4 r5 r6 r7 r8 r9 M N O P Q R S T U V;refine ϊ (v:=κ #[σ ν 0 0,J Z 0,J Z 0,J Z 0,J Z 0,J Z 0,J Z 0,J Z 0,J Z 0,J Z 1]) ?_ rfl ⟨?_,?_⟩
  ·refine wt _ _ (w.1.size+1) _ 0 0 0 0 0 0 0 0 1 rfl ?_;exact dH (yx q) _ _ _ _ _ _ _ _ _ _
  ·rw[yx m,yx n];exact du _ _ _
  ·iterate 10 (refine aF ?_ (Nat.le_succ _) _ _)
   exact yx G
 ·have m:Hid (fJ ⟨L,lim,d,A,B,C,D,b,g⟩=⟨L,lim,0,0,0,0,0,0,g⟩):=yz (by unfold fJ;rw[y];rfl);have n:Hid (gv ⟨L,lim,d,A,B,C,D,b,g⟩=0):=yz (by unfold gv;rw[y];rfl);clear y;obtain⟨s0,s1,s2,s3,s4,s5,s6,s7,s8⟩:=yx T1;go_wp2_with fail;clear s0 s1 s2 s3 s4 s5 s6 s7 s8;refine(yx cC _ (yx S1)).mono ?_;rintro e w2 ⟨a,l,rfl,hC,f⟩;have G:=aB F f;have q:=ap u f;have i:=yz ((yx H).kept (yx u).lt f);have C2:=yz (hC.low (B':=w.1.size+2) (by omega));clear f hC F u H T1 S1 cC;go_wp2_with fail;refine(oH lim d A B C D b g a L.length l _).mono ?_;rintro e ab ⟨rfl,f⟩;have r:=aB G f;have o:=ap q f;have t:=yz ((yx i).kept (yx q).lt f);have s:=ap C2 f;clear f G q i C2;go_wp2_with fail;refine(rj lim 0 0 0 0 0 0 g a L.length l _).mono ?_;rintro e w3 ⟨rfl,f⟩;have B3:=aB r f;have R3:=ap o f;have k:=yz ((yx t).kept (yx o).lt f);have C3:=ap s f;clear f r o t s;obtain⟨⟨Y,r1,r2,r3,r4,r5,r6,r7,r8⟩,r9⟩:=yx R3;have M:=yx k 0;have N:=yx k 1;have O:=yx k 2;have P:=yx k 3;have Q:=yx k 4;have R:=yx k 5;have S:=yx k 6;have T:=yx k 7;have U:=yx k 8;have V:=yx k 9;go_wp2_with fail;clear Y r1 r2 r3 r4 r5 r6 r7 r8 r9 M N O P Q R S T U V;refine ϊ (v:=κ #[σ a L.length l,J Z lim,J Z 0,J Z 0,J Z 0,J Z 0,J Z 0,J Z 0,J Z g,J Z 0]) ?_ rfl ⟨?_,?_⟩
  ·refine wt _ _ (w.1.size+1) _ lim 0 0 0 0 0 0 g 0 rfl ?_;exact dH (yx R3) _ _ _ _ _ _ _ _ _ _
  ·rw[yx m,yx n];refine⟨a,l,rfl,?_⟩;refine ax.low (B:=w.1.size+2) ?_ (by omega);iterate 10 (refine ax.far ?_ (show w.1.size+1<w.1.size+2 by omega) _ _)
   exact yx C3
  ·iterate 10 (refine aF ?_ (Nat.le_succ _) _ _)
   exact yx B3
def zB(g1 g2 g3 g4 a b c d:Int):Int:=coP g1 g2 g3 g4 a b c d (coA g1 g2 g3 g4 a b c d)
def zD(g1 g2 g3 g4 a b c d:Int):Int:=coP g1 g2 g3 g4 a b c d (coB g1 g2 g3 g4 a b c d)
def zE(g1 g2 g3 g4 a b c d:Int):Int:=coP g1 g2 g3 g4 a b c d (coC g1 g2 g3 g4 a b c d)
def zF(g1 g2 g3 g4 a b c d:Int):Int:=coP g1 g2 g3 g4 a b c d (coD g1 g2 g3 g4 a b c d)
def dv(t:Tk)(g1 g2 g3 g4:Int):Tk:=if t.mode=0 then t else if coK g1 g2 g3 g4 t.A t.B t.C t.D=0 then { t with A:=zB g1 g2 g3 g4 t.A t.B t.C t.D,B:=zD g1 g2 g3 g4 t.A t.B t.C t.D,C:=zE g1 g2 g3 g4 t.A t.B t.C t.D,D:=zF g1 g2 g3 g4 t.A t.B t.C t.D } else FL t
def tkV(a:Option η)(n c:Nat)(t:Tk):μ:=κ #[σ a n c,J Z t.lim,J Z t.mode,J Z t.A,J Z t.B,J Z t.C,J Z t.D,J Z t.coast,J Z t.fr]
theorem GB(f g h i a b c d:Int)(w:ω):
  χ prog 168 #[κ #[J Z f,J Z g,J Z h,J Z i],κ #[J Z a,J Z b,J Z c,J Z d]] w fun e j=>e=ρ (κ #[J Z (zB f g h i a b c d),J Z (zD f g h i a b c d),J Z (zE f g h i a b c d),J Z (zF f g h i a b c d),J Z (coK f g h i a b c d)])/\δ w.1.size w j:=Br f g h i a b c d w
theorem Ae(f g i j a b c d:Int)(w:ω)(k:aG f g i j=true)(l:aG a b c d=true):
  χ prog 129 #[κ #[J Z f,J Z g,J Z i,J Z j],κ #[J Z a,J Z b,J Z c,J Z d]] w fun e m=>e=ρ (κ #[J Z (zB f g i j a b c d),J Z (zD f g i j a b c d),J Z (zE f g i j a b c d),J Z (zF f g i j a b c d),J Z (coK f g i j a b c d)])/\δ w.1.size w m:=by
 refine(nF f g i j a b c d w (dt.1 k).1 (dt.1 l).1).mono fun e m h=>⟨?_,h.2⟩
 rw[h.1,<-IN (by unfold coR;rw[k,l];rfl)];rfl
theorem wA(T:Array μ)(X:ω)(b:Nat)(v:μ)(lim c A B C D a d:Int)(e:T.getD 4 undef=π (ς ⟨b,0,ν⟩))(h:fD X b v lim c A B C D a d):(results f142 T).run prog X=.ok (κ #[v,J Z lim,J Z c,J Z A,J Z B,J Z C,J Z D,J Z a,J Z d]) X:=by
 obtain⟨f,g,i,j,k,l,m,n,o⟩:=h;simp only[Array.getD_eq_getD_getElem?]at e;simp[results,results142,go_sem,e,f,g,i,j,k,l,m,n,o]
theorem AT(L:List St)(lim d A B C D b f g i j k:Int)(a:Option η)(n c:Nat)(w:ω):
  χ prog 142 #[κ #[σ a n c,J Z lim,J Z d,J Z A,J Z B,J Z C,J Z D,J Z b,J Z f],κ #[J Z g,J Z i,J Z j,J Z k]] w fun e w'=>e=ρ (tkV a n c (dv ⟨L,lim,d,A,B,C,D,b,f⟩ g i j k))/\δ w.1.size w w':=by
 by_cases I:d=0
 ·have t:Hid (tkV a n c (dv ⟨L,lim,d,A,B,C,D,b,f⟩ g i j k)=κ #[σ a n c,J Z lim,J Z d,J Z A,J Z B,J Z C,J Z D,J Z b,J Z f]):=yz (by unfold dv tkV;rw[if_pos I]);go_enter func142,ntmps142;go_wp2;rw[yx t];subst I;exact ϊ (v:=κ #[σ a n c,J Z lim,J Z 0,J Z A,J Z B,J Z C,J Z D,J Z b,J Z f]) (by simp[results,results142,go_sem]) rfl ⟨rfl,bT _ _ _ _⟩
 have F:=bT w (ξ #[σ a n c,J Z lim,J Z d,J Z A,J Z B,J Z C,J Z D,J Z b,J Z f] 84) (ξ #[J Z g,J Z i,J Z j,J Z k] 24) (ξ #[σ ν 0 0,J Z 0,J Z 0,J Z 0,J Z 0,J Z 0,J Z 0,J Z 0,J Z 0] 84);have O:=aJ (w.alloc (ξ #[σ a n c,J Z lim,J Z d,J Z A,J Z B,J Z C,J Z D,J Z b,J Z f] 84)) (ξ #[J Z g,J Z i,J Z j,J Z k] 24) (ξ #[σ ν 0 0,J Z 0,J Z 0,J Z 0,J Z 0,J Z 0,J Z 0,J Z 0,J Z 0] 84);have T0:=(eH w (σ a n c) lim d A B C D b f 84).kept O;have F0:=(fq w #[σ a n c,J Z lim,J Z d,J Z A,J Z B,J Z C,J Z D,J Z b,J Z f] 84).kept (by simp) O;have R0:=(by simpa using eH ((w.alloc (ξ #[σ a n c,J Z lim,J Z d,J Z A,J Z B,J Z C,J Z D,J Z b,J Z f] 84)).alloc (ξ #[J Z g,J Z i,J Z j,J Z k] 24)) (σ ν 0 0) 0 0 0 0 0 0 0 0 84:fD (((w.alloc (ξ #[σ a n c,J Z lim,J Z d,J Z A,J Z B,J Z C,J Z D,J Z b,J Z f] 84)).alloc (ξ #[J Z g,J Z i,J Z j,J Z k] 24)).alloc (ξ #[σ ν 0 0,J Z 0,J Z 0,J Z 0,J Z 0,J Z 0,J Z 0,J Z 0,J Z 0] 84)) (w.1.size+1+1) (σ ν 0 0) 0 0 0 0 0 0 0 0)
 have G0:=(by simpa using fq ((w.alloc (ξ #[σ a n c,J Z lim,J Z d,J Z A,J Z B,J Z C,J Z D,J Z b,J Z f] 84)).alloc (ξ #[J Z g,J Z i,J Z j,J Z k] 24)) #[σ ν 0 0,J Z 0,J Z 0,J Z 0,J Z 0,J Z 0,J Z 0,J Z 0,J Z 0] 84:iC (((w.alloc (ξ #[σ a n c,J Z lim,J Z d,J Z A,J Z B,J Z C,J Z D,J Z b,J Z f] 84)).alloc (ξ #[J Z g,J Z i,J Z j,J Z k] 24)).alloc (ξ #[σ ν 0 0,J Z 0,J Z 0,J Z 0,J Z 0,J Z 0,J Z 0,J Z 0,J Z 0] 84)) (w.1.size+1+1))
 have HB:=yz F;have H:=yz T0;have HF:=yz F0;have G:=yz R0;have HG:=yz G0;have p:coK g i j k A B C D=0->Hid (tkV a n c (dv ⟨L,lim,d,A,B,C,D,b,f⟩ g i j k)=κ #[σ a n c,J Z lim,J Z d,J Z (zB g i j k A B C D),J Z (zD g i j k A B C D),J Z (zE g i j k A B C D),J Z (zF g i j k A B C D),J Z b,J Z f]):=fun h=>yz (by unfold dv tkV;rw[if_neg I,if_pos h]);have q:coK g i j k A B C D≠0->Hid (tkV a n c (dv ⟨L,lim,d,A,B,C,D,b,f⟩ g i j k)=κ #[σ a n c,J Z lim,J Z 0,J Z 0,J Z 0,J Z 0,J Z 0,J Z 0,J Z f]):=fun h=>yz (by unfold dv tkV;rw[if_neg I,if_neg h];rfl);have cX:=yz (fun W=>GB g i j k A B C D W);generalize zB g i j k A B C D=x at *;generalize zD g i j k A B C D=P2 at *;generalize zE g i j k A B C D=y at *;generalize zF g i j k A B C D=z at *;generalize coK g i j k A B C D=M at *;clear F O T0 F0 R0 G0;go_enter func142,ntmps142;go_wp2_with fail;refine(yx cX _).mono ?_;rintro e w1 ⟨rfl,l⟩;have r:=an w1 (ξ #[J Z x,J Z P2,J Z y,J Z z,J Z M] 132);have K:=aB (aB HB l) r;have N:=aW H l r;have s:=yz (((yx HF).kept (yx H).lt l).kept ((yx H).kept l).lt r);have E:=aW G l r;have m:=yz (((yx HG).kept (yx G).lt l).kept ((yx G).kept l).lt r);have O1:=eO w1 x P2 y z M 132;clear l r HB H HF G HG cX;obtain⟨o0,o1,o2,o3,o4⟩:=O1;by_cases P:M=0
 ·have t:=p P;clear p q;subst P;obtain⟨s0,s1,s2,s3,s4,s5,s6,s7,s8⟩:=yx N;obtain⟨r0,r1,r2,r3,r4,r5,r6,r7,r8⟩:=yx E;have f3:=yx s 3;have f4:=yx s 4;have f5:=yx s 5;have f6:=yx s 6;have g0:=yx m 0;have Q:=yx m 1;have R:=yx m 2;have S:=yx m 3;have T:=yx m 4;have U:=yx m 5;have V:=yx m 6;have X:=yx m 7;have Y:=yx m 8;go_wp2_with fail;clear s0 s1 s2 s3 s4 s5 s6 s7 s8 r0 r1 r2 r3 r4 r5 r6 r7 r8 f3 f4 f5 f6 g0 Q R S T U V X Y o0 o1 o2 o3 o4;rw[yx t];refine ϊ (v:=κ #[σ a n c,J Z lim,J Z d,J Z x,J Z P2,J Z y,J Z z,J Z b,J Z f]) ?_ rfl ⟨rfl,?_⟩
  ·refine wA _ _ (w.1.size+1+1) _ lim d x P2 y z b f rfl ?_;refine fu (lim0:=0) (mode0:=0) (A0:=0) (B0:=0) (C0:=0) (D0:=0) (coast0:=0) (fr0:=0) (u:=σ ν 0 0) ?_ _ lim d x P2 y z b f;iterate 4 (refine fD.far ?_ (show w.1.size+1+1≠w.1.size by omega) _ _)
   exact yx E
  ·iterate 9 (refine aF ?_ (Nat.le_add_right _ 2) _ _)
   iterate 4 (refine aF ?_ (ύ w.1.size) _ _)
   exact yx K
 ·have t:=q P;clear p q;obtain⟨s0,s1,s2,s3,s4,s5,s6,s7,s8⟩:=yx N;go_wp2_with fail;clear s0 s1 s2 s3 s4 s5 s6 s7 s8 o0 o1 o2 o3 o4;refine(oH lim d A B C D b f a n c _).mono ?_;rintro e w2 ⟨rfl,l⟩;have B2:=aB K l;have R2:=ap E l;have o:=yz ((yx m).kept (yx E).lt l);clear l K E m N s;obtain⟨r0,r1,r2,r3,r4,r5,r6,r7,r8⟩:=yx R2;have q0:=yx o 0;have Q:=yx o 1;have R:=yx o 2;have S:=yx o 3;have T:=yx o 4;have U:=yx o 5;have V:=yx o 6;have X:=yx o 7;have Y:=yx o 8;go_wp2_with fail;clear r0 r1 r2 r3 r4 r5 r6 r7 r8 q0 Q R S T U V X Y;rw[yx t];refine ϊ (v:=κ #[σ a n c,J Z lim,J Z 0,J Z 0,J Z 0,J Z 0,J Z 0,J Z 0,J Z f]) ?_ rfl ⟨rfl,?_⟩
  ·refine wA _ _ (w.1.size+1+1) _ lim 0 0 0 0 0 0 f rfl ?_;exact fu (lim0:=0) (mode0:=0) (A0:=0) (B0:=0) (C0:=0) (D0:=0) (coast0:=0) (fr0:=0) (u:=σ ν 0 0) (yx R2) _ lim 0 0 0 0 0 0 f
  ·iterate 9 (refine aF ?_ (Nat.le_add_right _ 2) _ _)
   exact yx B2
def iM(t:Tk)(g1 g2 g3 g4:Int):Bool:=aM t&&aG g1 g2 g3 g4
def fy(t:Tk)(g1 g2 g3 g4:Int):Tk:=if iM t g1 g2 g3 g4=true then dv t g1 g2 g3 g4 else dW
def iL(t:Tk)(g1 g2 g3 g4:Int):Int:=if iM t g1 g2 g3 g4=true then 0 else 1
theorem wW(t:Tk)(a b c d:Int):(dv t a b c d).L=t.L:=by
 unfold dv;split
 ·rfl
 ·split<;>rfl
theorem ax.off{w:ω}{B:Nat}{L:List St}{a:Option η}{c:Nat}(h:ax w B L a c){b:Nat}(i:∀x,a=ς x->x.block≠b)(o:Nat)(y:μ):ax (w.setCell ⟨b,o,ν⟩ y) B L a c:=by
 obtain⟨k,f⟩:=h;refine⟨k,?_⟩;rcases f with f | ⟨g,j,d,e,l,m,r⟩
 ·exact .inl f
 ·injection e with e1 e2 e3;exact .inr ⟨g,j,d,by rw[e1,e2,e3],l,by rw[Below.heap_setCell w ⟨b,o,ν⟩ y g (fun e=>i _ e1 e)];exact m,r⟩
theorem lP(T:Array μ)(X:ω)(b:Nat)(v:μ)(lim d A B C D a e c:Int)(f:T.getD 4 undef=π (ς ⟨b,0,ν⟩))(h:TkO X b v lim d A B C D a e c):(results f94 T).run prog X=.ok (κ #[v,J Z lim,J Z d,J Z A,J Z B,J Z C,J Z D,J Z a,J Z e,J Z c]) X:=by
 obtain⟨⟨g,i,j,k,l,m,n,o,p⟩,q⟩:=h;simp only[Array.getD_eq_getD_getElem?]at f;simp[results,results94,go_sem,f,g,i,j,k,l,m,n,o,p,q]
theorem rX(T:Array μ)(X:ω)(b:Nat)(v:μ)(lim d A B C D a e c:Int)(f:T.getD 4 undef=π (ς ⟨b,0,ν⟩))(h:TkO X b v lim d A B C D a e c):(results f111 T).run prog X=.ok (κ #[v,J Z lim,J Z d,J Z A,J Z B,J Z C,J Z D,J Z a,J Z e,J Z c]) X:=by
 obtain⟨⟨g,i,j,k,l,m,n,o,p⟩,q⟩:=h;simp only[Array.getD_eq_getD_getElem?]at f;simp[results,results111,go_sem,f,g,i,j,k,l,m,n,o,p,q]
theorem qX(L:List St)(lim d A B C D b m i j k l:Int)(y:Option η)(c:Nat)(w:ω)(hn:L.length<=1048576)(hS:aO w y L L.length):
  χ prog 94 #[κ #[σ y L.length c,J Z lim,J Z d,J Z A,J Z B,J Z C,J Z D,J Z b,J Z m],κ #[J Z i,J Z j,J Z k,J Z l]] w fun e w'=>jy w' w.1.size (fy ⟨L,lim,d,A,B,C,D,b,m⟩ i j k l) (iL ⟨L,lim,d,A,B,C,D,b,m⟩ i j k l) e/\δ w.1.size w w':=by
 have B0:=bT w (ξ #[σ y L.length c,J Z lim,J Z d,J Z A,J Z B,J Z C,J Z D,J Z b,J Z m] 38) (ξ #[J Z i,J Z j,J Z k,J Z l] 24) (ξ #[σ ν 0 0,J Z 0,J Z 0,J Z 0,J Z 0,J Z 0,J Z 0,J Z 0,J Z 0,J Z 0] 52);have Z2:=aJ (w.alloc (ξ #[σ y L.length c,J Z lim,J Z d,J Z A,J Z B,J Z C,J Z D,J Z b,J Z m] 38)) (ξ #[J Z i,J Z j,J Z k,J Z l] 24) (ξ #[σ ν 0 0,J Z 0,J Z 0,J Z 0,J Z 0,J Z 0,J Z 0,J Z 0,J Z 0,J Z 0] 52);have T0:=(eH w (σ y L.length c) lim d A B C D b m 38).kept Z2;have U0:=(by simpa using be (w.alloc (ξ #[σ y L.length c,J Z lim,J Z d,J Z A,J Z B,J Z C,J Z D,J Z b,J Z m] 38)) i j k l 24:aR ((w.alloc (ξ #[σ y L.length c,J Z lim,J Z d,J Z A,J Z B,J Z C,J Z D,J Z b,J Z m] 38)).alloc (ξ #[J Z i,J Z j,J Z k,J Z l] 24)) (w.1.size+1) i j k l).alloc (ξ #[σ ν 0 0,J Z 0,J Z 0,J Z 0,J Z 0,J Z 0,J Z 0,J Z 0,J Z 0,J Z 0] 52);have R0:=(by simpa using rh ((w.alloc (ξ #[σ y L.length c,J Z lim,J Z d,J Z A,J Z B,J Z C,J Z D,J Z b,J Z m] 38)).alloc (ξ #[J Z i,J Z j,J Z k,J Z l] 24)) (σ ν 0 0) 0 0 0 0 0 0 0 0 0 52:TkO (((w.alloc (ξ #[σ y L.length c,J Z lim,J Z d,J Z A,J Z B,J Z C,J Z D,J Z b,J Z m] 38)).alloc (ξ #[J Z i,J Z j,J Z k,J Z l] 24)).alloc (ξ #[σ ν 0 0,J Z 0,J Z 0,J Z 0,J Z 0,J Z 0,J Z 0,J Z 0,J Z 0,J Z 0] 52)) (w.1.size+1+1) (σ ν 0 0) 0 0 0 0 0 0 0 0 0)
 have G0:=(by simpa using fq ((w.alloc (ξ #[σ y L.length c,J Z lim,J Z d,J Z A,J Z B,J Z C,J Z D,J Z b,J Z m] 38)).alloc (ξ #[J Z i,J Z j,J Z k,J Z l] 24)) #[σ ν 0 0,J Z 0,J Z 0,J Z 0,J Z 0,J Z 0,J Z 0,J Z 0,J Z 0,J Z 0] 52:iC (((w.alloc (ξ #[σ y L.length c,J Z lim,J Z d,J Z A,J Z B,J Z C,J Z D,J Z b,J Z m] 38)).alloc (ξ #[J Z i,J Z j,J Z k,J Z l] 24)).alloc (ξ #[σ ν 0 0,J Z 0,J Z 0,J Z 0,J Z 0,J Z 0,J Z 0,J Z 0,J Z 0,J Z 0] 52)) (w.1.size+1+1))
 have ae:w.1.size+3<=(((w.alloc (ξ #[σ y L.length c,J Z lim,J Z d,J Z A,J Z B,J Z C,J Z D,J Z b,J Z m] 38)).alloc (ξ #[J Z i,J Z j,J Z k,J Z l] 24)).alloc (ξ #[σ ν 0 0,J Z 0,J Z 0,J Z 0,J Z 0,J Z 0,J Z 0,J Z 0,J Z 0,J Z 0] 52)).1.size:=by simp
 have S0:=hS.kept B0;have cR:=yz (fun W h=>fh L lim d A B C D b m y c W hn h);have cC:=yz (fun W h=>kO L lim d A B C D b m y c W hn h);have HB:=yz B0;have HT:=yz T0;have HU:=yz U0;have HR:=yz R0;have HG:=yz G0;have HS:=yz S0;clear B0 T0 U0 R0 G0 S0 Z2 hS;go_enter func94,ntmps94;go_wp2_with fail;generalize hW:((w.alloc (ξ #[σ y L.length c,J Z lim,J Z d,J Z A,J Z B,J Z C,J Z D,J Z b,J Z m] 38)).alloc (ξ #[J Z i,J Z j,J Z k,J Z l] 24)).alloc (ξ #[σ ν 0 0,J Z 0,J Z 0,J Z 0,J Z 0,J Z 0,J Z 0,J Z 0,J Z 0,J Z 0] 52)=W at *;clear hW;refine(yx cR _ (yx HS)).mono ?_;rintro e w1 ⟨rfl,f⟩;have B1:=aB HB f;have T1:=ap HT f;have U1:=yz ((yx HU).kept (yx HU).lt f);have R1:=ap HR f;have G1:=yz ((yx HG).kept (yx HR).lt f);have S1:=ap HS f;have V:w.1.size+3<=w1.1.size:=ώ ae f.size;clear f HB HT HU HR HG HS ae cR;have p:iM ⟨L,lim,d,A,B,C,D,b,m⟩ i j k l=false->Hid (fy ⟨L,lim,d,A,B,C,D,b,m⟩ i j k l=dW)/\Hid (iL ⟨L,lim,d,A,B,C,D,b,m⟩ i j k l=1):=fun h=>⟨yz (by unfold fy;rw[h];rfl),yz (by unfold iL;rw[h];rfl)⟩
 cases I:aM ⟨L,lim,d,A,B,C,D,b,m⟩
 ·obtain⟨s,t⟩:=p (by unfold iM;rw[I];rfl);clear p;go_wp2_with fail;refine(ee 1 _).mono ?_;rintro e w2 ⟨rfl,f⟩;have B2:=aB B1 f;have G:=ap R1 f;have q:=yz ((yx G1).kept (yx R1).lt f);clear f B1 R1 G1;obtain⟨⟨K,M,N,O,P,Q,R,S,T⟩,U⟩:=yx G;have g0:=yx q 0;have i:=yx q 1;have j:=yx q 2;have k:=yx q 3;have l:=yx q 4;have g5:=yx q 5;have g6:=yx q 6;have g7:=yx q 7;have g8:=yx q 8;have g9:=yx q 9;go_wp2_with fail;clear K M N O P Q R S T U g0 i j k l g5 g6 g7 g8 g9;refine ϊ (v:=κ #[σ ν 0 0,J Z 0,J Z 0,J Z 0,J Z 0,J Z 0,J Z 0,J Z 0,J Z 0,J Z 1]) ?_ rfl ⟨?_,?_⟩
  ·refine lP _ _ (w.1.size+1+1) _ 0 0 0 0 0 0 0 0 1 rfl ?_;exact dH (yx G) _ _ _ _ _ _ _ _ _ _
  ·rw[yx s,yx t];exact du _ _ _
  ·iterate 10 (refine aF ?_ (Nat.le_add_right _ 2) _ _)
   exact yx B2
 obtain⟨u0,u1,u2,u3⟩:=yx U1;go_wp2_with fail;clear u0 u1 u2 u3;refine(bM i j k l _).mono ?_;rintro e w2 ⟨rfl,f⟩;have B2:=aB B1 f;have T2:=ap T1 f;have U2:=yz ((yx U1).kept (yx U1).lt f);have G:=ap R1 f;have q:=yz ((yx G1).kept (yx R1).lt f);have S2:=ap S1 f;have X:w.1.size+3<=w2.1.size:=ώ V f.size;clear f B1 T1 U1 R1 G1 S1 V;cases hg:aG i j k l
 ·obtain⟨s,t⟩:=p (by unfold iM;rw[hg,Bool.and_false]);clear p;go_wp2_with fail;refine(ee 1 _).mono ?_;rintro e Y ⟨rfl,f⟩;have B3:=aB B2 f;have H:=ap G f;have n:=yz ((yx q).kept (yx G).lt f);clear f B2 G q;obtain⟨⟨K,M,N,O,P,Q,R,S,T⟩,U⟩:=yx H;have g0:=yx n 0;have i:=yx n 1;have j:=yx n 2;have k:=yx n 3;have l:=yx n 4;have g5:=yx n 5;have g6:=yx n 6;have g7:=yx n 7;have g8:=yx n 8;have g9:=yx n 9;go_wp2_with fail;clear K M N O P Q R S T U g0 i j k l g5 g6 g7 g8 g9;refine ϊ (v:=κ #[σ ν 0 0,J Z 0,J Z 0,J Z 0,J Z 0,J Z 0,J Z 0,J Z 0,J Z 0,J Z 1]) ?_ rfl ⟨?_,?_⟩
  ·refine lP _ _ (w.1.size+1+1) _ 0 0 0 0 0 0 0 0 1 rfl ?_;exact dH (yx H) _ _ _ _ _ _ _ _ _ _
  ·rw[yx s,yx t];exact du _ _ _
  ·iterate 10 (refine aF ?_ (Nat.le_add_right _ 2) _ _)
   exact yx B3
 have ah:d≠0->aG A B C D=true:=fun h=>pQ I h;have s:Hid (fy ⟨L,lim,d,A,B,C,D,b,m⟩ i j k l=dv ⟨L,lim,d,A,B,C,D,b,m⟩ i j k l):=yz (by unfold fy iM;rw[I,hg];rfl);have t:Hid (iL ⟨L,lim,d,A,B,C,D,b,m⟩ i j k l=0):=yz (by unfold iL iM;rw[I,hg];rfl);clear p I;obtain⟨s0,s1,s2,s3,s4,s5,s6,s7,s8⟩:=yx T2;go_wp2_with fail;clear s0 s1 s2 s3 s4 s5 s6 s7 s8;refine(yx cC _ (yx S2)).mono ?_;rintro e Y ⟨a,o,rfl,hC,f⟩;have Z3:=an Y (ξ #[σ a L.length o,J Z lim,J Z d,J Z A,J Z B,J Z C,J Z D,J Z b,J Z m] 38);have C3:=yz ((hC.low (B':=w.1.size+1+1+1) (by omega)).kept Z3);have af:=hC.low (B':=w.1.size+1+1+1) (by omega);have B3:=aB (aB B2 f) Z3;have T3:=aW T2 f Z3;have U3:=yz (((yx U2).kept (yx U2).lt f).kept ((yx U2).kept (yx U2).lt f).lt Z3);have H:=aW G f Z3;have n:=yz (((yx q).kept (yx G).lt f).kept ((yx G).kept f).lt Z3);have Q3:=yz (eH Y (σ a L.length o) lim d A B C D b m 38);have F3:=yz (fq Y #[σ a L.length o,J Z lim,J Z d,J Z A,J Z B,J Z C,J Z D,J Z b,J Z m] 38);have hq:w.1.size+3<=Y.1.size:=ώ X f.size
 have aj:∀x,a=ς x->x.block<Y.1.size:=fun x e=>by
  rcases hC.2 with ⟨h1,_⟩ | ⟨g,c',al,e',hb,hh,r⟩
  ·injection h1 with h1;rw[h1]at e;cases e
  ·injection e' with e1;rw[e1]at e;cases e;exact(Array.getElem?_eq_some_iff.1 hh).1
 clear f hC Z3 B2 T2 U2 G q S2 X cC af;by_cases hm:d=0
 ·have E:Hid (dv ⟨L,lim,d,A,B,C,D,b,m⟩ i j k l=⟨L,lim,d,A,B,C,D,b,m⟩):=yz (by unfold dv;rw[if_pos hm]);obtain⟨s0,s1,s2,s3,s4,s5,s6,s7,s8⟩:=yx T3;obtain⟨q0,q1,q2,q3,q4,q5,q6,q7,q8⟩:=yx Q3;obtain⟨⟨K,M,N,O,P,Q,R,S,T⟩,U⟩:=yx H;have f0:=yx n 0;have f1:=yx n 1;have f2:=yx n 2;have f3:=yx n 3;have f4:=yx n 4;have f5:=yx n 5;have f6:=yx n 6;have f7:=yx n 7;have f8:=yx n 8;have f9:=yx n 9;subst hm;go_wp2_with fail;clear s0 s1 s2 s3 s4 s5 s6 s7 s8 q0 q1 q2 q3 q4 q5 q6 q7 q8 K M N O P Q R S T U f0 f1 f2 f3 f4 f5 f6 f7 f8 f9;refine ϊ (v:=κ #[σ a L.length o,J Z lim,J Z 0,J Z A,J Z B,J Z C,J Z D,J Z b,J Z m,J Z 0]) ?_ rfl ⟨?_,?_⟩
  ·refine lP _ _ (w.1.size+1+1) _ lim 0 A B C D b m 0 rfl ?_;exact dH (yx H) _ _ _ _ _ _ _ _ _ _
  ·rw[yx s,yx t,yx E];refine⟨a,o,rfl,?_⟩;refine ax.low (B:=w.1.size+1+1+1) ?_ (by omega);iterate 10 (refine ax.far ?_ (ϐ (w.1.size+1+1)) _ _)
   exact yx C3
  ·iterate 10 (refine aF ?_ (Nat.le_add_right _ 2) _ _)
   exact yx B3
 have cX:=yz (fun W=>Ae i j k l A B C D W hg (ah hm));have aa:coK i j k l A B C D=0->Hid (dv ⟨L,lim,d,A,B,C,D,b,m⟩ i j k l=⟨L,lim,d,zB i j k l A B C D,zD i j k l A B C D,zE i j k l A B C D,zF i j k l A B C D,b,m⟩):=fun h=>yz (by unfold dv;rw[if_neg hm,if_pos h]);have ab:coK i j k l A B C D≠0->Hid (dv ⟨L,lim,d,A,B,C,D,b,m⟩ i j k l=⟨L,lim,0,0,0,0,0,0,m⟩):=fun h=>yz (by unfold dv;rw[if_neg hm,if_neg h];rfl);generalize zB i j k l A B C D=P1 at *;generalize zD i j k l A B C D=P2 at *;generalize zE i j k l A B C D=P3 at *;generalize zF i j k l A B C D=P4 at *;generalize coK i j k l A B C D=Pk at *;obtain⟨s0,s1,s2,s3,s4,s5,s6,s7,s8⟩:=yx T3;obtain⟨u0,u1,u2,u3⟩:=yx U3;go_wp2_with fail;clear s0 s1 s2 s3 s4 s5 s6 s7 s8 u0 u1 u2 u3;generalize ag:Y.alloc (ξ #[σ a L.length o,J Z lim,J Z d,J Z A,J Z B,J Z C,J Z D,J Z b,J Z m] 38)=V3 at *;generalize ai:Y.1.size=qb at *;clear ag ai;refine(yx cX _).mono ?_;rintro e w4 ⟨rfl,f⟩;have Z4:=an w4 (ξ #[J Z P1,J Z P2,J Z P3,J Z P4,J Z Pk] 132);have B4:=aB (aB B3 f) Z4;have Q4:=aW Q3 f Z4;have F4:=yz (((yx F3).kept (yx Q3).lt f).kept ((yx Q3).kept f).lt Z4);have R4:=aW H f Z4;have z:=yz (((yx n).kept (yx H).lt f).kept ((yx H).kept f).lt Z4);have C4:=aW C3 f Z4;have O4:=eO w4 P1 P2 P3 P4 Pk 132;clear f Z4 B3 T3 U3 Q3 F3 H n C3 cX;obtain⟨o0,o1,o2,o3,o4⟩:=O4;by_cases I:Pk=0
 ·have E:=aa I;clear aa ab;subst I;obtain⟨q0,q1,q2,q3,q4,q5,q6,q7,q8⟩:=yx Q4;obtain⟨⟨K,M,N,O,P,Q,R,S,T⟩,U⟩:=yx R4;have e3:=yx F4 3;have e4:=yx F4 4;have e5:=yx F4 5;have e6:=yx F4 6;have f0:=yx z 0;have f1:=yx z 1;have f2:=yx z 2;have f3:=yx z 3;have f4:=yx z 4;have f5:=yx z 5;have f6:=yx z 6;have f7:=yx z 7;have f8:=yx z 8;have f9:=yx z 9;have ac:w.1.size+1+1≠qb:=by omega
  have ak:qb≠w.1.size+1+1:=by omega
  go_wp2_with fail;clear q0 q1 q2 q3 q4 q5 q6 q7 q8 K M N O P Q R S T U e3 e4 e5 e6 f0 f1 f2 f3 f4 f5 f6 f7 f8 f9 o0 o1 o2 o3 o4;refine ϊ (v:=κ #[σ a L.length o,J Z lim,J Z d,J Z P1,J Z P2,J Z P3,J Z P4,J Z b,J Z m,J Z 0]) ?_ rfl ⟨?_,?_⟩
  ·refine lP _ _ (w.1.size+1+1) _ lim d P1 P2 P3 P4 b m 0 rfl ?_;refine dH (lim0:=0) (mode0:=0) (A0:=0) (B0:=0) (C0:=0) (D0:=0) (coast0:=0) (fr0:=0) (code0:=0) (u:=σ ν 0 0) ?_ _ lim d P1 P2 P3 P4 b m 0;iterate 4 (refine TkO.far ?_ ac _ _)
   exact yx R4
  ·rw[yx s,yx t,yx E];refine⟨a,o,rfl,?_⟩;refine ax.low (B:=w.1.size+1+1+1) ?_ (by omega);iterate 10 (refine ax.far ?_ (ϐ (w.1.size+1+1)) _ _)
   iterate 4 (refine ax.off ?_ (fun x e=>Nat.ne_of_lt (aj x e)) _ _)
   exact yx C4
  ·iterate 10 (refine aF ?_ (Nat.le_add_right _ 2) _ _)
   iterate 4 (refine aF ?_ (show w.1.size<=qb by omega) _ _)
   exact yx B4
 ·have E:=ab I;clear aa ab;obtain⟨q0,q1,q2,q3,q4,q5,q6,q7,q8⟩:=yx Q4;go_wp2_with fail;clear q0 q1 q2 q3 q4 q5 q6 q7 q8 o0 o1 o2 o3 o4;refine(kP lim d A B C D b m a L.length o _).mono ?_;rintro e w5 ⟨rfl,f⟩;have B5:=aB B4 f;have R5:=ap R4 f;have F:=yz ((yx z).kept (yx R4).lt f);have C5:=ap C4 f;clear f B4 R4 z C4;obtain⟨⟨K,M,N,O,P,Q,R,S,T⟩,U⟩:=yx R5;have g0:=yx F 0;have i:=yx F 1;have j:=yx F 2;have k:=yx F 3;have l:=yx F 4;have g5:=yx F 5;have g6:=yx F 6;have g7:=yx F 7;have g8:=yx F 8;have g9:=yx F 9;go_wp2_with fail;clear K M N O P Q R S T U g0 i j k l g5 g6 g7 g8 g9;refine ϊ (v:=κ #[σ a L.length o,J Z lim,J Z 0,J Z 0,J Z 0,J Z 0,J Z 0,J Z 0,J Z m,J Z 0]) ?_ rfl ⟨?_,?_⟩
  ·refine lP _ _ (w.1.size+1+1) _ lim 0 0 0 0 0 0 m 0 rfl ?_;exact dH (yx R5) _ _ _ _ _ _ _ _ _ _
  ·rw[yx s,yx t,yx E];refine⟨a,o,rfl,?_⟩;refine ax.low (B:=w.1.size+1+1+1) ?_ (by omega);iterate 10 (refine ax.far ?_ (ϐ (w.1.size+1+1)) _ _)
   exact yx C5
  ·iterate 10 (refine aF ?_ (Nat.le_add_right _ 2) _ _)
   exact yx B5
theorem aR.far{w:ω}{b:Nat}{p q r s:Int}(h:aR w b p q r s){c:Nat}(a:b≠c)(o:Nat)(x:μ):aR (w.setCell ⟨c,o,ν⟩ x) b p q r s:=by
 obtain⟨d,e,f,g⟩:=h;refine⟨?_,?_,?_,?_⟩<;>(rw[World.cell?_setCell_far _ _ _ _ (Ne.symm a)];assumption)
theorem zX(L:List St)(lim d A B C D b l g i j k:Int)(m:Option η)(c:Nat)(p:η)(w:ω)(hn:L.length<=1048576)(ag:L.length<=c)(am:c<=9223372036854775807)(hE:bQ p w)(hS:aO w m L L.length):
  χ prog 111 #[κ #[σ m L.length c,J Z lim,J Z d,J Z A,J Z B,J Z C,J Z D,J Z b,J Z l],κ #[J Z g,J Z i,J Z j,J Z k]] w fun e q=>jy q w.1.size (fy ⟨L,lim,d,A,B,C,D,b,l⟩ g i j k) (iL ⟨L,lim,d,A,B,C,D,b,l⟩ g i j k) e/\δ w.1.size w q:=by
 have B0:=bT w (ξ #[σ m L.length c,J Z lim,J Z d,J Z A,J Z B,J Z C,J Z D,J Z b,J Z l] 38) (ξ #[J Z g,J Z i,J Z j,J Z k] 24) (ξ #[σ ν 0 0,J Z 0,J Z 0,J Z 0,J Z 0,J Z 0,J Z 0,J Z 0,J Z 0,J Z 0] 52);have Z2:=aJ (w.alloc (ξ #[σ m L.length c,J Z lim,J Z d,J Z A,J Z B,J Z C,J Z D,J Z b,J Z l] 38)) (ξ #[J Z g,J Z i,J Z j,J Z k] 24) (ξ #[σ ν 0 0,J Z 0,J Z 0,J Z 0,J Z 0,J Z 0,J Z 0,J Z 0,J Z 0,J Z 0] 52);have T0:=(eH w (σ m L.length c) lim d A B C D b l 38).kept Z2;have U0:=(by simpa using be (w.alloc (ξ #[σ m L.length c,J Z lim,J Z d,J Z A,J Z B,J Z C,J Z D,J Z b,J Z l] 38)) g i j k 24:aR ((w.alloc (ξ #[σ m L.length c,J Z lim,J Z d,J Z A,J Z B,J Z C,J Z D,J Z b,J Z l] 38)).alloc (ξ #[J Z g,J Z i,J Z j,J Z k] 24)) (w.1.size+1) g i j k).alloc (ξ #[σ ν 0 0,J Z 0,J Z 0,J Z 0,J Z 0,J Z 0,J Z 0,J Z 0,J Z 0,J Z 0] 52);have R0:=(by simpa using rh ((w.alloc (ξ #[σ m L.length c,J Z lim,J Z d,J Z A,J Z B,J Z C,J Z D,J Z b,J Z l] 38)).alloc (ξ #[J Z g,J Z i,J Z j,J Z k] 24)) (σ ν 0 0) 0 0 0 0 0 0 0 0 0 52:TkO (((w.alloc (ξ #[σ m L.length c,J Z lim,J Z d,J Z A,J Z B,J Z C,J Z D,J Z b,J Z l] 38)).alloc (ξ #[J Z g,J Z i,J Z j,J Z k] 24)).alloc (ξ #[σ ν 0 0,J Z 0,J Z 0,J Z 0,J Z 0,J Z 0,J Z 0,J Z 0,J Z 0,J Z 0] 52)) (w.1.size+1+1) (σ ν 0 0) 0 0 0 0 0 0 0 0 0)
 have G0:=(by simpa using fq ((w.alloc (ξ #[σ m L.length c,J Z lim,J Z d,J Z A,J Z B,J Z C,J Z D,J Z b,J Z l] 38)).alloc (ξ #[J Z g,J Z i,J Z j,J Z k] 24)) #[σ ν 0 0,J Z 0,J Z 0,J Z 0,J Z 0,J Z 0,J Z 0,J Z 0,J Z 0,J Z 0] 52:iC (((w.alloc (ξ #[σ m L.length c,J Z lim,J Z d,J Z A,J Z B,J Z C,J Z D,J Z b,J Z l] 38)).alloc (ξ #[J Z g,J Z i,J Z j,J Z k] 24)).alloc (ξ #[σ ν 0 0,J Z 0,J Z 0,J Z 0,J Z 0,J Z 0,J Z 0,J Z 0,J Z 0,J Z 0] 52)) (w.1.size+1+1))
 have ah:w.1.size+3<=(((w.alloc (ξ #[σ m L.length c,J Z lim,J Z d,J Z A,J Z B,J Z C,J Z D,J Z b,J Z l] 38)).alloc (ξ #[J Z g,J Z i,J Z j,J Z k] 24)).alloc (ξ #[σ ν 0 0,J Z 0,J Z 0,J Z 0,J Z 0,J Z 0,J Z 0,J Z 0,J Z 0,J Z 0] 52)).1.size:=by simp
 have S0:=hS.kept B0;have cR:=yz (gQ L lim d A B C D b l m c p _ hn ag am S0 (hE.kept B0));have cC:=yz (fun W h=>mO L lim d A B C D b l m c W hn h);have HB:=yz B0;have HT:=yz T0;have HU:=yz U0;have HR:=yz R0;have HG:=yz G0;have HS:=yz S0;clear B0 T0 U0 R0 G0 S0 Z2 hS;go_enter func111,ntmps111;go_wp2_with fail;generalize hW:((w.alloc (ξ #[σ m L.length c,J Z lim,J Z d,J Z A,J Z B,J Z C,J Z D,J Z b,J Z l] 38)).alloc (ξ #[J Z g,J Z i,J Z j,J Z k] 24)).alloc (ξ #[σ ν 0 0,J Z 0,J Z 0,J Z 0,J Z 0,J Z 0,J Z 0,J Z 0,J Z 0,J Z 0] 52)=W at *;clear hW;refine(yx cR).mono ?_;rintro e w1 ⟨rfl,f⟩;have B1:=aB HB f;have T1:=ap HT f;have U1:=yz ((yx HU).kept (yx HU).lt f);have R1:=ap HR f;have G1:=yz ((yx HG).kept (yx HR).lt f);have S1:=ap HS f;have R:w.1.size+3<=w1.1.size:=ώ ah f.size;clear f HB HT HU HR HG HS ah cR;have o:iM ⟨L,lim,d,A,B,C,D,b,l⟩ g i j k=false->Hid (fy ⟨L,lim,d,A,B,C,D,b,l⟩ g i j k=dW)/\Hid (iL ⟨L,lim,d,A,B,C,D,b,l⟩ g i j k=1):=fun h=>⟨yz (by unfold fy;rw[h];rfl),yz (by unfold iL;rw[h];rfl)⟩
 cases hk:aM ⟨L,lim,d,A,B,C,D,b,l⟩
 ·obtain⟨z,E⟩:=o (by unfold iM;rw[hk];rfl);clear o;have B2:=B1;have X:=R1;have r:=G1;clear B1 R1 G1;obtain⟨⟨r0,r1,r2,r3,r4,r5,r6,r7,r8⟩,r9⟩:=yx X;have g0:=yx r 0;have g:=yx r 1;have i:=yx r 2;have j:=yx r 3;have k:=yx r 4;have g5:=yx r 5;have g6:=yx r 6;have g7:=yx r 7;have g8:=yx r 8;have g9:=yx r 9;go_wp2_with fail;clear r0 r1 r2 r3 r4 r5 r6 r7 r8 r9 g0 g i j k g5 g6 g7 g8 g9;refine ϊ (v:=κ #[σ ν 0 0,J Z 0,J Z 0,J Z 0,J Z 0,J Z 0,J Z 0,J Z 0,J Z 0,J Z 1]) ?_ rfl ⟨?_,?_⟩
  ·refine rX _ _ (w.1.size+1+1) _ 0 0 0 0 0 0 0 0 1 rfl ?_;exact dH (yx X) _ _ _ _ _ _ _ _ _ _
  ·rw[yx z,yx E];exact du _ _ _
  ·iterate 10 (refine aF ?_ (Nat.le_add_right _ 2) _ _)
   exact yx B2
 obtain⟨u0,u1,u2,u3⟩:=yx U1;go_wp2_with fail;clear u0 u1 u2 u3;refine(dg g i j k _).mono ?_;rintro e I ⟨rfl,f⟩;have B2:=aB B1 f;have T2:=ap T1 f;have U2:=yz ((yx U1).kept (yx U1).lt f);have X:=ap R1 f;have r:=yz ((yx G1).kept (yx R1).lt f);have S2:=ap S1 f;have T:w.1.size+3<=I.1.size:=ώ R f.size;clear f B1 T1 U1 R1 G1 S1 R;cases hg:aG g i j k
 ·obtain⟨z,E⟩:=o (by unfold iM;rw[hg,Bool.and_false]);clear o;have B3:=B2;have R3:=X;have t:=r;clear B2 X r;obtain⟨⟨r0,r1,r2,r3,r4,r5,r6,r7,r8⟩,r9⟩:=yx R3;have g0:=yx t 0;have g:=yx t 1;have i:=yx t 2;have j:=yx t 3;have k:=yx t 4;have g5:=yx t 5;have g6:=yx t 6;have g7:=yx t 7;have g8:=yx t 8;have g9:=yx t 9;go_wp2_with fail;clear r0 r1 r2 r3 r4 r5 r6 r7 r8 r9 g0 g i j k g5 g6 g7 g8 g9;refine ϊ (v:=κ #[σ ν 0 0,J Z 0,J Z 0,J Z 0,J Z 0,J Z 0,J Z 0,J Z 0,J Z 0,J Z 1]) ?_ rfl ⟨?_,?_⟩
  ·refine rX _ _ (w.1.size+1+1) _ 0 0 0 0 0 0 0 0 1 rfl ?_;exact dH (yx R3) _ _ _ _ _ _ _ _ _ _
  ·rw[yx z,yx E];exact du _ _ _
  ·iterate 10 (refine aF ?_ (Nat.le_add_right _ 2) _ _)
   exact yx B3
 have z:Hid (fy ⟨L,lim,d,A,B,C,D,b,l⟩ g i j k=dv ⟨L,lim,d,A,B,C,D,b,l⟩ g i j k):=yz (by unfold fy iM;rw[hk,hg];rfl);have E:Hid (iL ⟨L,lim,d,A,B,C,D,b,l⟩ g i j k=0):=yz (by unfold iL iM;rw[hk,hg];rfl);have HL:Hid ((dv ⟨L,lim,d,A,B,C,D,b,l⟩ g i j k).L=L):=yz (wW _ _ _ _ _);have cB:=yz (fun (W:ω) (a:Option η) (u:Nat)=>AT L lim d A B C D b l g i j k a L.length u W);generalize al:dv ⟨L,lim,d,A,B,C,D,b,l⟩ g i j k=t2 at *;obtain⟨L2,G,s,A2,U,C2,D2,n,aa⟩:=t2;unfold tkV at cB;dsimp only at cB HL;clear al o hk;have CT:Hid (fD I w.1.size (σ m L.length c) lim d A B C D b l/\aR I (w.1.size+1) g i j k):=yz ⟨yx T2,yx U2⟩;go_wp2;refine wp_region_held_drew (S:=(fun q=>(q.cell? ⟨w.1.size,0,ν⟩=ς (σ m L.length c)/\q.cell? ⟨w.1.size,1,ν⟩=ς (J Z lim)/\q.cell? ⟨w.1.size,2,ν⟩=ς (J Z d)/\q.cell? ⟨w.1.size,3,ν⟩=ς (J Z A)/\q.cell? ⟨w.1.size,4,ν⟩=ς (J Z B)/\q.cell? ⟨w.1.size,5,ν⟩=ς (J Z C)/\q.cell? ⟨w.1.size,6,ν⟩=ς (J Z D)/\q.cell? ⟨w.1.size,7,ν⟩=ς (J Z b)/\q.cell? ⟨w.1.size,8,ν⟩=ς (J Z l))/\q.cell? ⟨w.1.size+1,0,ν⟩=ς (J Z g)/\q.cell? ⟨w.1.size+1,1,ν⟩=ς (J Z i)/\q.cell? ⟨w.1.size+1,2,ν⟩=ς (J Z j)/\q.cell? ⟨w.1.size+1,3,ν⟩=ς (J Z k))) (by kernel_rfl) ?_ (fun ab=>?_)
 ·exact yx CT
 refine tkO 0 rfl ?_;refine tkO 2 rfl ?_;have af:aO I.drew m L L.length:=(yx S2).kept (Below.refl _ _).drew;have ac:δ w.1.size w I.drew:=(yx B2).drew;have Y:TkO I.drew (w.1.size+1+1) (σ ν 0 0) 0 0 0 0 0 0 0 0 0:=yx X;have ae:iC I.drew (w.1.size+1+1):=yx r;have M:fD I.drew w.1.size (σ m L.length c) lim d A B C D b l/\aR I.drew (w.1.size+1) g i j k:=yx CT;have ai:w.1.size+3<=I.drew.1.size:=T;refine rd1 1 rfl fun K F=>?_;go_simp;refine(yx cC _ af).mono ?_;rintro e w3 ⟨a,u,rfl,hC,f⟩;have C3:=yz (hC.low (B':=w.1.size+1+1+1) (by omega));have B3:=yz (ak ac f);have R3:=yz (Y.kept f);have t:=yz (ae.kept Y.lt f);have x:=yz (show fD w3 w.1.size (σ m L.length c) lim d A B C D b l/\aR w3 (w.1.size+1) g i j k from ⟨M.1.kept f,M.2.kept M.2.lt f⟩);clear f hC af ac Y ae M ai CT T2 U2 B2 X r S2 T;refine F.out _ _ (yx x) fun N=>?_;clear F K ab;refine rd1 3 rfl fun K F=>?_;go_simp;refine(yx cB _ a u).mono ?_;rintro e w4 ⟨rfl,f⟩;have C4:=ap C3 f;have B4:=aB B3 f;have R4:=ap R3 f;have G4:=yz ((yx t).kept (yx R3).lt f);have y:=yz (show fD w4 w.1.size (σ m L.length c) lim d A B C D b l/\aR w4 (w.1.size+1) g i j k from ⟨(yx x).1.kept f,(yx x).2.kept (yx x).2.lt f⟩);clear f C3 B3 R3 t x;refine F.out _ _ (yx y) fun O=>?_;clear F K N;refine rd1 4 rfl fun K F=>?_;go_simp;refine(rj G s A2 U C2 D2 n aa a L.length u _).mono ?_;rintro e w5 ⟨rfl,f⟩;have C5:=ap C4 f;have B5:=aB B4 f;have R5:=ap R4 f;have H:=yz ((yx G4).kept (yx R4).lt f);have V:=yz (show fD w5 w.1.size (σ m L.length c) lim d A B C D b l/\aR w5 (w.1.size+1) g i j k from ⟨(yx y).1.kept f,(yx y).2.kept (yx y).2.lt f⟩);clear f C4 B4 R4 G4 y;refine F.out _ _ (yx V) fun P=>?_;clear F K O;obtain⟨⟨r0,r1,r2,r3,r4,r5,r6,r7,r8⟩,r9⟩:=yx R5;have f0:=yx H 0;have f1:=yx H 1;have f2:=yx H 2;have f3:=yx H 3;have f4:=yx H 4;have f5:=yx H 5;have f6:=yx H 6;have f7:=yx H 7;have f8:=yx H 8;have f9:=yx H 9;refine rd1 5 rfl fun K F=>?_;go_simp;clear r0 r1 r2 r3 r4 r5 r6 r7 r8 r9 f0 f1 f2 f3 f4 f5 f6 f7 f8 f9;refine F.out _ _ ?_ (fun Q=>?_)
 ·show fD _ w.1.size (σ m L.length c) lim d A B C D b l/\aR _ (w.1.size+1) g i j k;refine⟨?_,?_⟩
  ·iterate 10 (refine fD.far ?_ (show w.1.size≠w.1.size+1+1 by omega) _ _)
   exact(yx V).1
  ·iterate 10 (refine aR.far ?_ (show w.1.size+1≠w.1.size+1+1 by omega) _ _)
   exact(yx V).2
 clear F K P;refine rdn ?_;clear Q;go_wp2_with fail;have aj:L2=L:=yx HL;refine ϊ (v:=κ #[σ a L.length u,J Z G,J Z s,J Z A2,J Z U,J Z C2,J Z D2,J Z n,J Z aa,J Z 0]) ?_ rfl ⟨?_,?_⟩
 ·refine rX _ _ (w.1.size+1+1) _ G s A2 U C2 D2 n aa 0 rfl ?_;exact dH (yx R5) _ _ _ _ _ _ _ _ _ _
 ·rw[yx z,yx E];subst aj;refine⟨a,u,rfl,?_⟩;refine ax.low (B:=w.1.size+1+1+1) ?_ (by omega);iterate 10 (refine ax.far ?_ (ϐ (w.1.size+1+1)) _ _)
  exact yx C5
 ·iterate 10 (refine aF ?_ (Nat.le_add_right _ 2) _ _)
  exact yx B5
def KU(t:Tk)(p q r s:Int):Tk:={ t with mode:=1,A:=p,B:=q,C:=r,D:=s,coast:=0 }
def bS(t:Tk):Tk:=if t.mode=0 then t else if t.lim<t.coast+1 then FL t else { t with mode:=2,coast:=t.coast+1 }
theorem qM(T:Array μ)(X:ω)(b:Nat)(v:μ)(lim c A B C D a d:Int)(e:T.getD 2 undef=π (ς ⟨b,0,ν⟩))(h:fD X b v lim c A B C D a d):(results f172 T).run prog X=.ok (κ #[v,J Z lim,J Z c,J Z A,J Z B,J Z C,J Z D,J Z a,J Z d]) X:=by
 obtain⟨f,g,i,j,k,l,m,n,o⟩:=h;simp only[Array.getD_eq_getD_getElem?]at e;simp[results,results172,go_sem,e,f,g,i,j,k,l,m,n,o]
theorem mL(lim d A B C D b f p q r s:Int)(a:Option η)(n c:Nat)(w:ω):
  χ prog 170 #[κ #[σ a n c,J Z lim,J Z d,J Z A,J Z B,J Z C,J Z D,J Z b,J Z f],κ #[J Z p,J Z q,J Z r,J Z s]] w fun e g=>e=ρ (κ #[σ a n c,J Z lim,J Z 1,J Z p,J Z q,J Z r,J Z s,J Z 0,J Z f])/\δ w.1.size w g:=by
 go_enter func170,ntmps170;go_wp2_with fail;go_region
 go_wp2;exact ϊ (v:=κ #[σ a n c,J Z lim,J Z 1,J Z p,J Z q,J Z r,J Z s,J Z 0,J Z f]) (by simp[results,results170,go_sem]) rfl ⟨rfl,(bT _ _ _ _).drew⟩
theorem mx(lim d A B C D b f p q r s:Int)(a:Option η)(n c:Nat)(w:ω):
  χ prog 155 #[κ #[σ a n c,J Z lim,J Z d,J Z A,J Z B,J Z C,J Z D,J Z b,J Z f],κ #[J Z p,J Z q,J Z r,J Z s]] w fun e g=>e=ρ (κ #[σ a n c,J Z lim,J Z 1,J Z p,J Z q,J Z r,J Z s,J Z 0,J Z f,J Z 0])/\δ w.1.size w g:=by
 go_enter func155,ntmps155;go_wp2;exact ϊ (v:=κ #[σ a n c,J Z lim,J Z 1,J Z p,J Z q,J Z r,J Z s,J Z 0,J Z f,J Z 0]) (by simp[results,results155,go_sem]) rfl ⟨rfl,bT _ _ _ _⟩
theorem AV(L:List St)(lim f A B C D b d:Int)(a:Option η)(n c:Nat)(w:ω)(H:f=0\/f=1\/f=2)(F:0<=b)(G:b<=1000):
  χ prog 172 #[κ #[σ a n c,J Z lim,J Z f,J Z A,J Z B,J Z C,J Z D,J Z b,J Z d]] w fun e I=>e=ρ (tkV a n c (bS ⟨L,lim,f,A,B,C,D,b,d⟩))/\δ w.1.size w I:=by
 have M:wrap64 (b+1)=b+1:=au (by omega) (by omega);rcases H with rfl | rfl | rfl
 ·have g:Hid (tkV a n c (bS ⟨L,lim,0,A,B,C,D,b,d⟩)=κ #[σ a n c,J Z lim,J Z 0,J Z A,J Z B,J Z C,J Z D,J Z b,J Z d]):=yz (by unfold bS tkV;rw[if_pos rfl]);go_enter func172,ntmps172;go_wp2;rw[yx g];exact ϊ (v:=κ #[σ a n c,J Z lim,J Z 0,J Z A,J Z B,J Z C,J Z D,J Z b,J Z d]) (by simp[results,results172,go_sem]) rfl ⟨rfl,aJ _ _ _⟩
 ·by_cases l:lim<b+1
  ·have g:Hid (tkV a n c (bS ⟨L,lim,1,A,B,C,D,b,d⟩)=κ #[σ a n c,J Z lim,J Z 0,J Z 0,J Z 0,J Z 0,J Z 0,J Z 0,J Z d]):=yz (by unfold bS tkV;rw[if_neg (by show ¬(1:Int)=0;omega),if_pos l];rfl);have i:=yz (aJ w (ξ #[σ a n c,J Z lim,J Z 2,J Z A,J Z B,J Z C,J Z D,J Z (b+1),J Z d] 84) (ξ #[σ ν 0 0,J Z 0,J Z 0,J Z 0,J Z 0,J Z 0,J Z 0,J Z 0,J Z 0] 84));have j:=yz (by simpa using aq (w.alloc (ξ #[σ a n c,J Z lim,J Z 2,J Z A,J Z B,J Z C,J Z D,J Z (b+1),J Z d] 84)) [σ ν 0 0,J Z 0,J Z 0,J Z 0,J Z 0,J Z 0,J Z 0,J Z 0,J Z 0] 84:Blk ((w.alloc (ξ #[σ a n c,J Z lim,J Z 2,J Z A,J Z B,J Z C,J Z D,J Z (b+1),J Z d] 84)).alloc (ξ #[σ ν 0 0,J Z 0,J Z 0,J Z 0,J Z 0,J Z 0,J Z 0,J Z 0,J Z 0] 84)) (w.1.size+1) [σ ν 0 0,J Z 0,J Z 0,J Z 0,J Z 0,J Z 0,J Z 0,J Z 0,J Z 0] 84);go_enter func172,ntmps172;go_wp2_with fail;refine(oH lim 2 A B C D (b+1) d a n c _).mono ?_;rintro e K ⟨rfl,h⟩;have m:=aB i h;have k:=ap j h;clear h i j;obtain⟨o,p,q,r,s,t,x,y,z⟩:=bO (yx k);have E:=iG (yx k);go_wp2_with fail;rw[yx g];refine ϊ (v:=κ #[σ a n c,J Z lim,J Z 0,J Z 0,J Z 0,J Z 0,J Z 0,J Z 0,J Z d]) ?_ rfl ⟨rfl,?_⟩
   ·exact qM _ _ (w.1.size+1) _ lim 0 0 0 0 0 0 d rfl (fu (u:=σ ν 0 0) ⟨o,p,q,r,s,t,x,y,z⟩ _ lim 0 0 0 0 0 0 d)
   ·iterate 9 (refine aF ?_ (Nat.le_succ _) _ _)
    exact yx m
  ·have g:Hid (tkV a n c (bS ⟨L,lim,1,A,B,C,D,b,d⟩)=κ #[σ a n c,J Z lim,J Z 2,J Z A,J Z B,J Z C,J Z D,J Z (b+1),J Z d]):=yz (by unfold bS tkV;rw[if_neg (by show ¬(1:Int)=0;omega),if_neg l]);go_enter func172,ntmps172;go_wp2;rw[yx g];exact ϊ (v:=κ #[σ a n c,J Z lim,J Z 2,J Z A,J Z B,J Z C,J Z D,J Z (b+1),J Z d]) (by simp[results,results172,go_sem]) rfl ⟨rfl,aJ _ _ _⟩
 ·by_cases l:lim<b+1
  ·have g:Hid (tkV a n c (bS ⟨L,lim,2,A,B,C,D,b,d⟩)=κ #[σ a n c,J Z lim,J Z 0,J Z 0,J Z 0,J Z 0,J Z 0,J Z 0,J Z d]):=yz (by unfold bS tkV;rw[if_neg (by show ¬(2:Int)=0;omega),if_pos l];rfl);have i:=yz (aJ w (ξ #[σ a n c,J Z lim,J Z 2,J Z A,J Z B,J Z C,J Z D,J Z (b+1),J Z d] 84) (ξ #[σ ν 0 0,J Z 0,J Z 0,J Z 0,J Z 0,J Z 0,J Z 0,J Z 0,J Z 0] 84));have j:=yz (by simpa using aq (w.alloc (ξ #[σ a n c,J Z lim,J Z 2,J Z A,J Z B,J Z C,J Z D,J Z (b+1),J Z d] 84)) [σ ν 0 0,J Z 0,J Z 0,J Z 0,J Z 0,J Z 0,J Z 0,J Z 0,J Z 0] 84:Blk ((w.alloc (ξ #[σ a n c,J Z lim,J Z 2,J Z A,J Z B,J Z C,J Z D,J Z (b+1),J Z d] 84)).alloc (ξ #[σ ν 0 0,J Z 0,J Z 0,J Z 0,J Z 0,J Z 0,J Z 0,J Z 0,J Z 0] 84)) (w.1.size+1) [σ ν 0 0,J Z 0,J Z 0,J Z 0,J Z 0,J Z 0,J Z 0,J Z 0,J Z 0] 84);go_enter func172,ntmps172;go_wp2_with fail;refine(oH lim 2 A B C D (b+1) d a n c _).mono ?_;rintro e K ⟨rfl,h⟩;have m:=aB i h;have k:=ap j h;clear h i j;obtain⟨o,p,q,r,s,t,x,y,z⟩:=bO (yx k);have E:=iG (yx k);go_wp2_with fail;rw[yx g];refine ϊ (v:=κ #[σ a n c,J Z lim,J Z 0,J Z 0,J Z 0,J Z 0,J Z 0,J Z 0,J Z d]) ?_ rfl ⟨rfl,?_⟩
   ·exact qM _ _ (w.1.size+1) _ lim 0 0 0 0 0 0 d rfl (fu (u:=σ ν 0 0) ⟨o,p,q,r,s,t,x,y,z⟩ _ lim 0 0 0 0 0 0 d)
   ·iterate 9 (refine aF ?_ (Nat.le_succ _) _ _)
    exact yx m
  ·have g:Hid (tkV a n c (bS ⟨L,lim,2,A,B,C,D,b,d⟩)=κ #[σ a n c,J Z lim,J Z 2,J Z A,J Z B,J Z C,J Z D,J Z (b+1),J Z d]):=yz (by unfold bS tkV;rw[if_neg (by show ¬(2:Int)=0;omega),if_neg l]);go_enter func172,ntmps172;go_wp2;rw[yx g];exact ϊ (v:=κ #[σ a n c,J Z lim,J Z 2,J Z A,J Z B,J Z C,J Z D,J Z (b+1),J Z d]) (by simp[results,results172,go_sem]) rfl ⟨rfl,aJ _ _ _⟩
theorem xM(w:ω):
  χ prog 180 #[] w fun e w'=>(∃v,e=ρ v/\w'.ownsRow w.1.size 24 4 v (aE 625).length (fi (aE 625)))/\δ w.1.size w w':=by
 obtain⟨i0,S,al,am,ao⟩:=info_parts yB;have ar:1000<=maxLen:=by decide +kernel
 have E:=yz (Hv w w.1.size (ύ _));have y:=yz (an w (ξ #[] 24));go_enter func180,ntmps180;go_wp2_with fail;generalize w.alloc (ξ #[] 24)=W0 at E y ⊢;go_loopw [1,2] (fun v b wr=>∃i:Nat,i<=5/\b=J Z ((i:Int)-2)/\Hid (wr.ownsRow w.1.size 24 4 v (aE (i*125)).length (fi (aE (i*125))))/\Hid (δ w.1.size w wr)) (fun _ b _=>(3-ϋ b).toNat)
 case atStart=>exact⟨0,by omega,rfl,E,y⟩
 case round=>
  clear E y;obtain⟨i,hi,rfl,F,z⟩:=hrel;by_cases ap:i<5
  ·have ac:(i:Int)-2<=2:=by omega
   go_wp2;go_loopw [1,3] (fun v b wr=>∃j:Nat,j<=5/\b=J Z ((j:Int)-2)/\Hid (wr.ownsRow w.1.size 24 4 v (aE (i*125+j*25)).length (fi (aE (i*125+j*25))))/\Hid (δ w.1.size w wr)) (fun _ b _=>(3-ϋ b).toNat)
   case atStart=>exact⟨0,by omega,rfl,yz (by have h:=yx F;simpa using h),z⟩
   case round=>
    clear F z;obtain⟨j,hj,rfl,G,A⟩:=hrel;by_cases ae:j<5
    ·have ad:(j:Int)-2<=2:=by omega
     go_wp2;go_loopw [1,4] (fun v b wr=>∃l:Nat,l<=5/\b=J Z ((l:Int)-2)/\Hid (wr.ownsRow w.1.size 24 4 v (aE (i*125+j*25+l*5)).length (fi (aE (i*125+j*25+l*5))))/\Hid (δ w.1.size w wr)) (fun _ b _=>(3-ϋ b).toNat)
     case atStart=>exact⟨0,by omega,rfl,yz (by have h:=yx G;simpa using h),A⟩
     case round=>
      clear G A;obtain⟨l,hl,rfl,f,B⟩:=hrel;by_cases ah:l<5
      ·have ag:(l:Int)-2<=2:=by omega
       go_wp2;go_loopw [1,5] (fun v b wr=>∃m:Nat,m<=5/\b=J Z ((m:Int)-2)/\Hid (wr.ownsRow w.1.size 24 4 v (aE (i*125+j*25+l*5+m)).length (fi (aE (i*125+j*25+l*5+m))))/\Hid (δ w.1.size w wr)) (fun _ b _=>(3-ϋ b).toNat)
       case atStart=>exact⟨0,by omega,rfl,yz (by have h:=yx f;simpa using h),B⟩
       case round=>
        clear f B;obtain⟨m,hm,rfl,H,C⟩:=hrel;by_cases aj:m<5
        ·have ai:(m:Int)-2<=2:=by omega
         have X:=Ns i j l m ae ah aj;have au:=oG (i*125+j*25+l*5+m);have d:=yz (wX (i*125+j*25+l*5+m));rw[X]at d;clear X;generalize af:i*125+j*25+l*5+m=k at *;have aq:k<625:=by omega
         have P:Hid (i*125+j*25+l*5+(m+1)=k+1):=yz (by omega);clear af;have a:=an wr (ξ #[J Z ((i:Int)-2),J Z ((j:Int)-2),J Z ((l:Int)-2),J Z ((m:Int)-2)] 24);have D:=aB C a;have I:=yz (kT (yx H) a);have x:=be wr ((i:Int)-2) ((j:Int)-2) ((l:Int)-2) ((m:Int)-2) 24;clear a H C;go_wp2_with fail;obtain⟨p,L⟩:∃p,p=(i:Int)-2:=⟨_,rfl⟩
         obtain⟨q,M⟩:∃p,p=(j:Int)-2:=⟨_,rfl⟩
         obtain⟨r,N⟩:∃p,p=(l:Int)-2:=⟨_,rfl⟩
         obtain⟨s,O⟩:∃p,p=(m:Int)-2:=⟨_,rfl⟩
         generalize wr.alloc (ξ #[J Z ((i:Int)-2),J Z ((j:Int)-2),J Z ((l:Int)-2),J Z ((m:Int)-2)] 24)=W1 at D I x ⊢;refine(bM _ _ _ _ _).mono ?_;rintro e W2 ⟨rfl,hx⟩;have Q:=x.kept x.lt hx;have t:=aB D hx;have K:=yz (kT (yx I) hx);clear hx x D I;rw[<-L,<-M,<-N,<-O]at d;rw[<-L,<-M,<-N,<-O]at Q;have Y:Hid (sK (p,q,r,s)=aG ((i:Int)-2) ((j:Int)-2) ((l:Int)-2) ((m:Int)-2)):=yz (by rw[<-L,<-M,<-N,<-O];rfl);generalize wr.1.size=tb at *;cases W:aG ((i:Int)-2) ((j:Int)-2) ((l:Int)-2) ((m:Int)-2)
         ·rw[W]at Y;rw[yx Y,if_neg (by simp),List.append_nil]at d;have f:Hid (W2.ownsRow w.1.size 24 4 u1 (aE (i*125+j*25+l*5+(m+1))).length (fi (aE (i*125+j*25+l*5+(m+1))))):=yz (by rw[yx P,yx d];exact yx K);clear L M N O;go_wp2;go_roundw
          case rel=>exact⟨m+1,by omega,by go_num,f,t⟩
          case measure=>simp[ϋ]<;>omega
         ·rw[W]at Y;rw[yx Y,if_pos rfl]at d;obtain⟨e0,e1,e2,e3⟩:=Q;have Z1:=an W2 (ξ #[J Z p,J Z q,J Z r,J Z s] 24);have n:=kT (yx K) Z1;have B3:=ak (yx t) Z1;have av:=(yx t).size;have HP:=yz L;have HQ:=yz M;have HR:=yz N;have HS:=yz O;clear Z1 K t L M N O;generalize aE k=Pk at *;go_wp2_with (at_builtin;refine wpList_append_own _ rfl _ _ 226 rfl w.1.size 24 i0 (κ #[J Z 0,J Z 0,J Z 0,J Z 0]) 4 32 underlying226 S al am ao rfl (by decide) _ _ _ rfl n ⟨W2.1.size,0,ν⟩ 1 1 (fi [(p,q,r,s)]) rfl rfl ?d2 (fun u hu=>vg hu) ?d3 ?d4 ?d5 ?_)
          case d2=>first | exact fun j u h=>h | exact lI _ _ _
          case d3=>omega
          case d4=>omega
          case d5=>first | omega | (simp;omega)
          intro v7 V7 o c _;have aa:=yz (JK B3 n c (by simp;omega));have ab:Hid (V7.ownsRow w.1.size 24 4 v7 (aE (i*125+j*25+l*5+(m+1))).length (fi (aE (i*125+j*25+l*5+(m+1))))):=yz (by rw[yx P,yx d,yl,List.length_append];exact o);clear o c n B3 e0 e1 e2 e3;go_wp2;go_roundw
          case rel=>exact⟨m+1,by omega,by go_num,ab,aa⟩
          case measure=>simp[ϋ]<;>omega
        ·have ai:¬(m:Int)-2<=2:=by omega
         have V:m=5:=by omega
         subst V;have g:Hid (wr.ownsRow w.1.size 24 4 u1 (aE (i*125+j*25+(l+1)*5)).length (fi (aE (i*125+j*25+(l+1)*5)))):=yz (by rw[show i*125+j*25+(l+1)*5=i*125+j*25+l*5+5 by omega];exact yx H);go_wp2;go_roundw
         case rel=>exact⟨l+1,by omega,by go_num,g,C⟩
         case measure=>simp[ϋ]<;>omega
      ·have ag:¬(l:Int)-2<=2:=by omega
       have U:l=5:=by omega
       subst U;have g:Hid (wr.ownsRow w.1.size 24 4 u1 (aE (i*125+(j+1)*25)).length (fi (aE (i*125+(j+1)*25)))):=yz (by rw[show i*125+(j+1)*25=i*125+j*25+5*5 by omega];exact yx f);go_wp2;go_roundw
       case rel=>exact⟨j+1,by omega,by go_num,g,B⟩
       case measure=>simp[ϋ]<;>omega
    ·have ad:¬(j:Int)-2<=2:=by omega
     have T:j=5:=by omega
     subst T;have g:Hid (wr.ownsRow w.1.size 24 4 u1 (aE ((i+1)*125)).length (fi (aE ((i+1)*125)))):=yz (by rw[show (i+1)*125=i*125+5*25 by omega];exact yx G);go_wp2;go_roundw
     case rel=>exact⟨i+1,by omega,by go_num,g,A⟩
     case measure=>simp[ϋ]<;>omega
  ·have ac:¬(i:Int)-2<=2:=by omega
   have R:i=5:=by omega
   subst R;go_wp2;go_ret;exact⟨⟨_,rfl,yx F⟩,yx z⟩
section
variable {a:Option η} {w w':ω}
theorem lX.row{b n:Nat}{L:List St}(h:lX w b n L n):AX w (ς ⟨b,0,ν⟩) n (ς b):=by
 obtain⟨c,i,m,k⟩:=h;refine .inr ⟨b,fun j=>match j % 4 with | 0=>(stA L (j / 4)).1 | 1=>(stA L (j / 4)).2.1 | 2=>(stA L (j / 4)).2.2.1 | _=>(stA L (j / 4)).2.2.2,rfl,rfl,c,i,fun j l=>?_⟩;obtain⟨d,e,f,g⟩:=k (j / 4) (by omega);have a:j % 4=0\/j % 4=1\/j % 4=2\/j % 4=3:=by omega
 rcases a with a | a | a | a
 ·dsimp only;rw[a];rw[show j / 4*4=j by omega]at d;exact d
 ·dsimp only;rw[a];rw[show j / 4*4+1=j by omega]at e;exact e
 ·dsimp only;rw[a];rw[show j / 4*4+2=j by omega]at f;exact f
 ·dsimp only;rw[a];rw[show j / 4*4+3=j by omega]at g;exact g
theorem ax.grown{B:Nat}{L:List St}{b:Nat}{c:Option Nat}(h:ax w B L a b)(n:w.grownBy w' c)(i:∀g,c=ς g->g<B):ax w' B L a b:=by
 obtain⟨l,f⟩:=h;refine⟨l,?_⟩;rcases f with f | ⟨g,k,d,e,m,j,r⟩
 ·exact .inl f
 ·exact .inr ⟨g,k,d,e,m,by rw[n.block g (Array.getElem?_eq_some_iff.1 j).1 (fun e=>by have:=i g e.symm;omega)];exact j,r⟩
theorem aO.grown{L:List St}{n:Nat}{c:Option Nat}(h:aO w a L n)(j:w.grownBy w' c)(d:∀x g,a=ς x->c=ς g->x.block≠g):aO w' a L n:=by
 rcases h with h | ⟨b,o,rfl,f,q⟩
 ·exact .inl h
 ·refine .inr ⟨b,o,rfl,Ϗ f j.size,fun i r=>?_⟩;have e:w'.heap[b]? = w.heap[b]?:=j.block b f (fun e=>d _ b rfl e.symm rfl);obtain⟨k,l,m,p⟩:=q i r;exact⟨(World.cell?_of_block (a:=⟨b,_,ν⟩) e).trans k,(World.cell?_of_block (a:=⟨b,_,ν⟩) e).trans l,(World.cell?_of_block (a:=⟨b,_,ν⟩) e).trans m,(World.cell?_of_block (a:=⟨b,_,ν⟩) e).trans p⟩
theorem ax.block{B:Nat}{L:List St}{b:Nat}(h:ax w B L a b)(x:η)(e:a=ς x):B<=x.block/\x.block<w.1.size:=by
 rcases h.2 with ⟨c,_⟩ | ⟨g,k,d,f,i,j,r⟩
 ·injection c with c;rw[c]at e;cases e
 ·injection f with e1;rw[e1]at e;cases e;exact⟨i,(Array.getElem?_eq_some_iff.1 j).1⟩
end
def vT(L:List St)(lim:Int):Bool:=bE L&&bG 1 5 lim
def vU(L:List St)(lim:Int):Tk:=if 400<L.length then dW else if vT L lim=true then ⟨L,lim,0,0,0,0,0,0,0⟩ else dW
def Ap(L:List St)(lim:Int):Int:=if 400<L.length then 2 else if vT L lim=true then 0 else 1
theorem tf(L:List St)(lim:Int)(b o c:Nat)(w:ω)(hn:L.length<=1048576)(hS:aO w (ς ⟨b,o,ν⟩) L L.length):
  χ prog 91 #[σ (ς ⟨b,o,ν⟩) L.length c,J Z lim] w fun e w'=>jy w' w.1.size (vU L lim) (Ap L lim) e/\δ w.1.size w w':=by
 have B0:=an w (ξ #[σ ν 0 0,J Z 0,J Z 0,J Z 0,J Z 0,J Z 0,J Z 0,J Z 0,J Z 0,J Z 0] 52);have R0:=rh w (σ ν 0 0) 0 0 0 0 0 0 0 0 0 52;have G0:=fq w #[σ ν 0 0,J Z 0,J Z 0,J Z 0,J Z 0,J Z 0,J Z 0,J Z 0,J Z 0,J Z 0] 52;have S0:=hS.kept B0;have ab:w.1.size+1<=(w.alloc (ξ #[σ ν 0 0,J Z 0,J Z 0,J Z 0,J Z 0,J Z 0,J Z 0,J Z 0,J Z 0,J Z 0] 52)).1.size:=by simp
 have cR:=yz (fun W h=>nO L (ς ⟨b,o,ν⟩) c W hn h);have HB:=yz B0;have V:=yz R0;have HG:=yz G0;have HS:=yz S0;clear B0 R0 G0 S0 hS;by_cases s:400<L.length
 ·have ad:(400:Int)<(L.length:Int):=by omega
  have j:Hid (vU L lim=dW):=yz (by unfold vU;rw[if_pos s]);have k:Hid (Ap L lim=2):=yz (by unfold Ap;rw[if_pos s]);clear s;go_enter func91,ntmps91;go_wp2_with fail;refine(ee 2 _).mono ?_;rintro e w2 ⟨rfl,f⟩;have p:=aB HB f;have m:=ap V f;have d:=yz ((yx HG).kept (yx V).lt f);clear f HB V HG;obtain⟨⟨H,I,K,M,N,O,P,Q,R⟩,S⟩:=yx m;have t:=yx d 0;have x:=yx d 1;have y:=yx d 2;have z:=yx d 3;have A:=yx d 4;have C:=yx d 5;have D:=yx d 6;have E:=yx d 7;have F:=yx d 8;have G:=yx d 9;go_wp2_with fail;clear H I K M N O P Q R S t x y z A C D E F G;refine ϊ (v:=κ #[σ ν 0 0,J Z 0,J Z 0,J Z 0,J Z 0,J Z 0,J Z 0,J Z 0,J Z 0,J Z 2]) ?_ rfl ⟨?_,?_⟩
  ·refine qL _ _ w.1.size _ 0 0 0 0 0 0 0 0 2 rfl ?_;exact dH (yx m) _ _ _ _ _ _ _ _ _ _
  ·rw[yx j,yx k];exact du _ _ _
  ·iterate 10 (refine aF ?_ (ύ w.1.size) _ _)
   exact yx p
 have ad:¬(400:Int)<(L.length:Int):=by omega
 go_enter func91,ntmps91;go_wp2_with fail;refine(yx cR _ (yx HS)).mono ?_;rintro e w1 ⟨rfl,f⟩;have T:=aB HB f;have q:=ap V f;have U:=yz ((yx HG).kept (yx V).lt f);have S1:=ap HS f;have ac:w.1.size+1<=w1.1.size:=ώ ab f.size;clear f HB V HG HS ab cR;have i:vT L lim=false->Hid (vU L lim=dW)/\Hid (Ap L lim=1):=fun h=>⟨yz (by unfold vU;rw[if_neg s,h];rfl),yz (by unfold Ap;rw[if_neg s,h];rfl)⟩
 cases hk:bE L
 ·obtain⟨j,k⟩:=i (by unfold vT;rw[hk];rfl);clear i;go_wp2_with fail;refine(ee 1 _).mono ?_;rintro e w2 ⟨rfl,f⟩;have p:=aB T f;have m:=ap q f;have d:=yz ((yx U).kept (yx q).lt f);clear f T q U;obtain⟨⟨H,I,K,M,N,O,P,Q,R⟩,S⟩:=yx m;have t:=yx d 0;have x:=yx d 1;have y:=yx d 2;have z:=yx d 3;have A:=yx d 4;have C:=yx d 5;have D:=yx d 6;have E:=yx d 7;have F:=yx d 8;have G:=yx d 9;go_wp2_with fail;clear H I K M N O P Q R S t x y z A C D E F G;refine ϊ (v:=κ #[σ ν 0 0,J Z 0,J Z 0,J Z 0,J Z 0,J Z 0,J Z 0,J Z 0,J Z 0,J Z 1]) ?_ rfl ⟨?_,?_⟩
  ·refine qL _ _ w.1.size _ 0 0 0 0 0 0 0 0 1 rfl ?_;exact dH (yx m) _ _ _ _ _ _ _ _ _ _
  ·rw[yx j,yx k];exact du _ _ _
  ·iterate 10 (refine aF ?_ (ύ w.1.size) _ _)
   exact yx p
 go_wp2_with fail;refine(kN lim 1 5 _).mono ?_;rintro e w2 ⟨rfl,hw⟩;rw[hw];clear hw w2;cases hl:bG 1 5 lim
 ·obtain⟨j,k⟩:=i (by unfold vT;rw[hk,hl];rfl);clear i;go_wp2_with fail;refine(ee 1 _).mono ?_;rintro e w2 ⟨rfl,f⟩;have p:=aB T f;have m:=ap q f;have d:=yz ((yx U).kept (yx q).lt f);clear f T q U;obtain⟨⟨H,I,K,M,N,O,P,Q,R⟩,S⟩:=yx m;have t:=yx d 0;have x:=yx d 1;have y:=yx d 2;have z:=yx d 3;have A:=yx d 4;have C:=yx d 5;have D:=yx d 6;have E:=yx d 7;have F:=yx d 8;have G:=yx d 9;go_wp2_with fail;clear H I K M N O P Q R S t x y z A C D E F G;refine ϊ (v:=κ #[σ ν 0 0,J Z 0,J Z 0,J Z 0,J Z 0,J Z 0,J Z 0,J Z 0,J Z 0,J Z 1]) ?_ rfl ⟨?_,?_⟩
  ·refine qL _ _ w.1.size _ 0 0 0 0 0 0 0 0 1 rfl ?_;exact dH (yx m) _ _ _ _ _ _ _ _ _ _
  ·rw[yx j,yx k];exact du _ _ _
  ·iterate 10 (refine aF ?_ (ύ w.1.size) _ _)
   exact yx p
 have j:Hid (vU L lim=⟨L,lim,0,0,0,0,0,0,0⟩):=yz (by unfold vU vT;rw[if_neg s,hk,hl];rfl);have k:Hid (Ap L lim=0):=yz (by unfold Ap vT;rw[if_neg s,hk,hl];rfl);clear i hk hl s;have X:=an w1 (ξ #[] 130);have S2:=(yx S1).kept X;have p:=aB T X;have m:=ap q X;have d:=yz ((yx U).kept (yx q).lt X);have N2:=lL w1 (w.1.size+1) ac;have l:=yz (ti S2);have HN:=yz N2;clear X S2 T q U S1 N2;obtain⟨i0,aa,ae,af,ag⟩:=info_parts oq;go_wp2_with (at_builtin;refine wpList_append_own _ rfl _ _ 36 rfl (w.1.size+1) 130 i0 (κ #[J Z 0,J Z 0,J Z 0,J Z 0]) 4 32 underlying36 aa ae af ag rfl (by decide) _ _ _ rfl (yx HN) ⟨b,o,ν⟩ L.length c (bC L) rfl (gh L) (yx l) (fun u hu=>ia hu) ?d1 ?d2 ?d3 ?_)
 case d1=>
  have:1048576<=maxLen:=by decide +kernel
  omega
 case d2=>omega
 case d3=>simp;omega
 intro v' w3 ho hg _;obtain⟨a,Y,rfl,hC⟩:=nj ho;have r:∀g,Value.ownBlock (σ (ς ⟨w1.1.size,0,ν⟩) 0 0)=ς g->w.1.size+1<=g:=fun g e=>by simp[Value.ownBlock]at e;omega
 have B3:=yz (dm (yx p) hg (yx p).size (fun g e=>by have:=r g e;omega));have R3:=yz ((yx m).grown hg (fun e=>by have:=r _ e.symm;omega));have n:=yz ((yx d).grown (yx m).lt hg (fun e=>by have:=r _ e.symm;omega));have C3:=yz hC;clear ho hg hC r p m d HN l;obtain⟨⟨H,I,K,M,N,O,P,Q,R⟩,S⟩:=yx R3;have t:=yx n 0;have x:=yx n 1;have y:=yx n 2;have z:=yx n 3;have A:=yx n 4;have C:=yx n 5;have D:=yx n 6;have E:=yx n 7;have F:=yx n 8;have G:=yx n 9;go_wp2_with fail;clear H I K M N O P Q R S t x y z A C D E F G;refine ϊ (v:=κ #[σ a L.length Y,J Z lim,J Z 0,J Z 0,J Z 0,J Z 0,J Z 0,J Z 0,J Z 0,J Z 0]) ?_ rfl ⟨?_,?_⟩
 ·refine qL _ _ w.1.size _ lim 0 0 0 0 0 0 0 0 rfl ?_;exact dH (yx R3) _ _ _ _ _ _ _ _ _ _
 ·rw[yx j,yx k];refine⟨a,Y,rfl,?_⟩;refine ax.low (B:=w.1.size+1) ?_ (by omega);iterate 10 (refine ax.far ?_ (ϐ w.1.size) _ _)
  exact yx C3
 ·iterate 10 (refine aF ?_ (ύ w.1.size) _ _)
  exact yx B3
section
def jv(w:ω)(g n:Nat):Prop:=∃f:Nat->Int,(∀j,0<=f j/\f j<=255)/\cu w 5 g n (fun j=>.int .u8 (f j))
variable {N b fb g rb:Nat} {w w' wr:ω}
theorem jv.lt{n:Nat}(h:jv w g n):g<w.1.size:=by
 obtain⟨f,_,h⟩:=h;exact h.lt
theorem jv.same{n:Nat}(h:jv w g n)(e:w'.heap[g]? = w.heap[g]?):jv w' g n:=by
 obtain⟨f,a,h⟩:=h;exact⟨f,a,h.same e⟩
theorem jv.set{n:Nat}(h:jv w g n)(i:Nat)(v:Int)(a:0<=v)(b:v<=255):jv (w.setCell ⟨g,i,ν⟩ (.int .u8 v)) g n:=by
 obtain⟨f,c,h⟩:=h;refine⟨fun j=>if j=i then v else f j,fun j=>?_,(h.set i (.int .u8 v)).congr (fun j d=>?_)⟩
 ·show 0<=(if j=i then v else f j)/\(if j=i then v else f j)<=255;split
  ·exact⟨a,b⟩
  ·exact c j
 ·show (if j=i then Value.int .u8 v else .int .u8 (f j))=.int .u8 (if j=i then v else f j);split<;>rfl
theorem jv.conv{n:Nat}(h:jv w g n)(a:Nat):∃s:ByteArray,s.size=n/\(convert 22 9 (σ (ς ⟨g,0,ν⟩) n a)).run prog w=.ok (τ s) w:=by
 obtain⟨f,c,h⟩:=h;refine⟨strOfNums ((List.range n).map f),by show Array.size _=n;simp[strOfNums],?_⟩;refine run_convert_bytes_arg (P:=prog) _ 22 5 underlying22 underlying5 g 0 n a ((List.range n).map f) (by simp) ?_ 9 underlying9;intro i b;rw[Nat.zero_add,h.cell b];congr 2
 rw[List.getD,List.getElem?_map,List.getElem?_range b];rfl
structure iB (w wr:ω) (b rb fb g N:Nat) (wd ht:Int) (px:ByteArray):Prop where
 src:aY b wr
 res:Blk wr rb [J Z 0,J Z 0,τ ⟨#[]⟩] 27
 fr:Blk wr fb [J Z wd,J Z ht,τ px] 27
 row:jv wr g N
 gr:w.grownBy wr (ς b)
 lb:b<w.1.size
 lr:w.1.size<=rb
 lf:rb<fb
 lg:fb<g
theorem iB.call{d:ω}{j f:Int}{i:ByteArray}(h:iB w wr b rb fb g N j f i)(l:aY b d)(a:wr.grownBy d (ς b)):iB w d b rb fb g N j f i:=by
 have:=h.lb;have:=h.lr;have:=h.lf;have:=h.lg;have c:∀k,w.1.size<=k->ς k≠ς b:=fun k m e=>by have:=ό e;omega
 exact⟨l,(a.block rb h.res.lt (c _ (by omega))).trans h.res,(a.block fb h.fr.lt (c _ (by omega))).trans h.fr,h.row.same (a.block g h.row.lt (c _ (by omega))),aj h.gr a,h.lb,h.lr,h.lf,h.lg⟩
theorem iB.set{l f:Int}{j:ByteArray}(h:iB w wr b rb fb g N l f j)(i:Nat)(v:Int)(m:0<=v)(n:v<=255):iB w (wr.setCell ⟨g,i,ν⟩ (.int .u8 v)) b rb fb g N l f j:=by
 have:=h.lb;have:=h.lr;have:=h.lf;have:=h.lg;have o:wr.grownBy (wr.setCell ⟨g,i,ν⟩ (.int .u8 v)) (ς g):=⟨rfl,rfl,rfl,by simp[World.setCell],fun k _ a=>heap_setCell_other wr _ k _ (fun e=>a (by rw[e]))⟩
 refine⟨h.src.kept o (fun c e=>by have:=ό e;omega),h.res.other _ _ (by show rb≠g;omega),h.fr.other _ _ (by show fb≠g;omega),h.row.set i v m n,⟨h.gr.os,h.gr.tape,h.gr.output,by simpa[World.setCell] using h.gr.size,fun k a d=>?_⟩,h.lb,h.lr,h.lf,h.lg⟩;rw[heap_setCell_other wr _ k _ (by show k≠g;omega)];exact h.gr.block k a d
theorem iB.drewn{d a:Int}{c:ByteArray}(h:iB w wr b rb fb g N d a c):iB w wr.drew b rb fb g N d a c:=
 ⟨h.src.kept (row:=ν) ⟨rfl,rfl,rfl,ύ _,fun _ _ _=>rfl⟩ (fun _ e=>by cases e),h.res,h.fr,h.row,⟨h.gr.os,h.gr.tape,h.gr.output,h.gr.size,h.gr.block⟩,h.lb,h.lr,h.lf,h.lg⟩
theorem aY.allocsF(h:aY b w)(o:Obj):aY b (w.alloc o):=h.kept (World.grownBy_alloc w o ν) (fun _ e=>by cases e)
theorem Blk.grownC{c:Nat}{d:List μ}{t:TypeId}(h:Blk w b d t)(f:w.grownBy w' (ς c))(a:b≠c):Blk w' b d t:=(f.block b h.lt (fun e=>a (ό e))).trans h
theorem LA:(prog.info? 5).map (fun i=>(i.zero,i.size,i.bytes))=ς (ς (.int .u8 0),1,1):=by kernel_rfl
theorem iB.frSet{o m:Int}{n:ByteArray}(h:iB w wr b rb fb g N o m n)(i:Nat)(v:μ)(f a:Int)(d:ByteArray)(e:[J Z o,J Z m,τ n].set i v=[J Z f,J Z a,τ d]):iB w (wr.setCell ⟨fb,i,ν⟩ v) b rb fb g N f a d:=by
 have:=h.lb;have:=h.lr;have:=h.lf;have:=h.lg;have p:wr.grownBy (wr.setCell ⟨fb,i,ν⟩ v) (ς fb):=⟨rfl,rfl,rfl,by simp[World.setCell],fun k _ j=>heap_setCell_other wr _ k _ (fun e=>j (by rw[e]))⟩
 refine⟨h.src.kept p (fun c e=>by have:=ό e;omega),h.res.other _ _ (by show rb≠fb;omega),by rw[<-e];exact h.fr.set i v,h.row.same (heap_setCell_other wr _ g _ (by show g≠fb;omega)),⟨h.gr.os,h.gr.tape,h.gr.output,by simpa[World.setCell] using h.gr.size,fun k j l=>?_⟩,h.lb,h.lr,h.lf,h.lg⟩;rw[heap_setCell_other wr _ k _ (by show k≠fb;omega)];exact h.gr.block k j l
theorem iB.px{c a:Int}{px:ByteArray}(h:iB w wr b rb fb g N c a px)(s:ByteArray):iB w (wr.setCell ⟨fb,2,ν⟩ (τ s)) b rb fb g N c a s:=h.frSet 2 _ _ _ _ rfl
theorem iB.wdSet{d a:Int}{c:ByteArray}(h:iB w wr b rb fb g N d a c)(z:Int):iB w (wr.setCell ⟨fb,0,ν⟩ (J Z z)) b rb fb g N z a c:=h.frSet 0 _ _ _ _ rfl
theorem iB.htSet{c d:Int}{a:ByteArray}(h:iB w wr b rb fb g N c d a)(z:Int):iB w (wr.setCell ⟨fb,1,ν⟩ (J Z z)) b rb fb g N c z a:=h.frSet 1 _ _ _ _ rfl
theorem iB.ends{n l:Int}{m:ByteArray}(h:iB w wr b rb fb g N n l m)(x y z:μ):aY b (((wr.setCell ⟨rb,0,ν⟩ x).setCell ⟨rb,1,ν⟩ y).setCell ⟨rb,2,ν⟩ z)/\w.grownBy (((wr.setCell ⟨rb,0,ν⟩ x).setCell ⟨rb,1,ν⟩ y).setCell ⟨rb,2,ν⟩ z) (ς b):=by
 have:=h.lb;have:=h.lr;have a:∀(W:ω) (i:Nat) (v:μ),W.grownBy (W.setCell ⟨rb,i,ν⟩ v) (ς rb):=fun W i v=>⟨rfl,rfl,rfl,by simp[World.setCell],fun k _ d=>heap_setCell_other W _ k _ (fun e=>d (by rw[e]))⟩
 have f:=aj (aj (a wr 0 x) (a _ 1 y)) (a _ 2 z);refine⟨h.src.kept f (fun c e=>by have:=ό e;omega),⟨h.gr.os,h.gr.tape,h.gr.output,ώ h.gr.size f.size,fun k d j=>?_⟩⟩;rw[f.block k (Ϗ d h.gr.size) (fun e=>by have:=ό e;omega)];exact h.gr.block k d j
theorem iB.alloc{d a:Int}{c:ByteArray}(h:iB w wr b rb fb g N d a c)(o:Obj):iB w (wr.alloc o) b rb fb g N d a c:=
 h.call (h.src.allocsF o) (World.grownBy_alloc wr o (ς b))
theorem zq(k:Int):0<=IntKind.u8.wrap k/\IntKind.u8.wrap k<=255:=by
 unfold IntKind.wrap;simp[IntKind.signed,IntKind.bits];omega
theorem Af(b:Nat)(w:ω)(hS:aY b w):
  χ prog 83 #[π (ς ⟨b,0,ν⟩)] w fun e w'=>∃(wd ht:Int) (s:ByteArray),e=ρ (κ #[J Z wd,J Z ht,τ s])/\s.size<=200/\aY b w'/\w.grownBy w' (ς b):=by
 have bi:=hS.lt;have HS:=yz hS;clear hS;have R0:=aq w [J Z 0,J Z 0,τ ⟨#[]⟩] 27;go_enter func83,ntmps83;go_wp2_with fail;refine(bz b 6 _ ((yx HS).allocsF _) (by omega)).mono ?_;rintro e w1 ⟨k1,rfl,bh,aX,_,aM,aE⟩;have aZ:=aX (by omega);have R1:=yz (R0.grownC aE (by omega));have aH:=yz (aj (World.grownBy_alloc w (ξ #[J Z 0,J Z 0,τ ⟨#[]⟩] 27) (ς b)) aE);have aI:=yz aM;clear aM aE aX R0;go_wp2_with fail;refine(bz b 5 _ (yx aI) (by omega)).mono ?_;rintro e w2 ⟨k2,rfl,a2,a0,_,aN,ao⟩;have a1:=a0 (by omega);have az:=yz (aN.allocsF (ξ #[J Z (5+k1),J Z (4+k2),τ ⟨#[]⟩] 27));have R2:=yz (((yx R1).grownC ao (by omega)).alloc (ξ #[J Z (5+k1),J Z (4+k2),τ ⟨#[]⟩] 27));have F2:=yz (aq w2 [J Z (5+k1),J Z (4+k2),τ ⟨#[]⟩] 27);have ay:=yz (aj (aj (yx aH) ao) (World.grownBy_alloc w2 (ξ #[J Z (5+k1),J Z (4+k2),τ ⟨#[]⟩] 27) (ς b)));have bk:w.1.size<w2.1.size:=Ϗ (yx R1).lt ao.size;clear aN ao a0 R1 aH aI;obtain⟨h,aG⟩:∃h:Nat,5+k1=(h:Int):=⟨(5+k1).toNat,by omega⟩
 obtain⟨C,aU⟩:∃C:Nat,4+k2=(C:Int):=⟨(4+k2).toNat,by omega⟩
 rw[aG,aU]at az R2 F2 ay;rw[aG];have a9:h<=10/\5<=h:=by omega
 have aT:C<=8/\4<=C:=by omega
 have D:(h:Int)*(C:Int)=((h*C:Nat):Int):=(Int.natCast_mul _ _).symm;have hN:h*C<=80:=by have:=Nat.mul_le_mul a9.1 aT.1;omega
 have bd:20<=h*C:=by have:=Nat.mul_le_mul a9.2 aT.2;omega
 generalize bC:h*C=N at D hN bd;obtain⟨i0,aV,bl,bm,bn⟩:=info_parts LA;have F:=(yx F2).cell 0 _ rfl;have f1:=(yx F2).cell 1 _ rfl;go_wp2_with (at_make;refine wpList_make_full _ rfl _ _ 22 rfl (w2.1.size+1) 5 i0 (.int .u8 0) 1 underlying22 aV bl bm .i64 .i64 _ _ N (by first | rfl | simp[D]) (by first | rfl | simp[D]) (by first | rfl | simp[D]) (by first | rfl | simp[D]) (by rw[bn];omega) (by unfold maxLen;omega) (by simp) ?_;intro w0 am a)
 have an:∀j,j<N*1->(madeCells (Value.int .u8 0).cells (N*1)).toList[j]? = ς (.int .u8 ((fun _=>0:Nat->Int) j)):=by
  intro j hj;have e:(Value.int .u8 0).cells = #[.int .u8 0]:=rfl;rw[e,toList_madeCells_one];simp at hj;simp[hj]
 have aC:δ (w2.alloc (ξ #[J Z (h:Int),J Z (C:Int),τ ⟨#[]⟩] 27)).1.size (w2.alloc (ξ #[J Z (h:Int),J Z (C:Int),τ ⟨#[]⟩] 27)) w0:=⟨a.os,a.tape,a.output,a.size,fun k hk=>a.block k hk (by simp)⟩
 have E:jv w0 (w2.1.size+1) N:=by
  refine⟨fun _=>0,fun j=>⟨by show (0:Int)<=0;omega,by show (0:Int)<=255;omega⟩,?_⟩;rcases am.2 with ⟨h',_⟩ | ⟨g,bx,bc,hv,_,hg,_,_,_,aF⟩
  ·simp at h'
  ·simp only[World.size_alloc,Value.slice.injEq,Option.some.injEq,Addr.mk.injEq,and_true,true_and]at hv;obtain⟨rfl,rfl⟩:=hv;refine⟨bc,hg,fun j hj=>?_⟩;have e:=an j (by omega);rw[<-aF,List.getElem?_take,if_pos (by omega)]at e;simpa using e
 have l:Hid (iB w w0 b w.1.size w2.1.size (w2.1.size+1) N h C ⟨#[]⟩):=yz ⟨(yx az).kept (row:=ν) ⟨a.os,a.tape,a.output,a.size,a.block⟩ (fun _ e=>by cases e),(yx R2).kept aC,(yx F2).kept aC,E,aj (yx ay) ⟨a.os,a.tape,a.output,a.size,fun k hk _=>a.block k hk (by simp)⟩,bi,ύ _,bk,ϐ _⟩;clear an am a aC E az R2 F2 ay F f1 aG aU;generalize w2.1.size+1=g at *;generalize w2.1.size=fb at *;clear a2 a1 bh aZ D;go_loopw [5] (fun kk wr=>∃i:Nat,i<=N/\kk=J Z i/\Hid (iB w wr b w.1.size fb g N h C ⟨#[]⟩)) (fun kk _=>N-(ϋ kk).toNat)
 case atStart=>exact⟨0,by omega,rfl,l⟩
 case round=>
  clear l;obtain⟨i,hi,rfl,l⟩:=hrel;by_cases bg:i<N
  ·have bt:(i:Int)<(N:Int):=by omega
   go_wp2_with fail;refine(bz b 3 _ (yx l).src (by omega)).mono ?_;rintro e w3 ⟨k3,rfl,ai,ah,_,I,P⟩;have a3:=ah (by omega);have aA:=(yx l).call I P;obtain⟨fz,bD,E⟩:=aA.row;have c0:=E.cell (j:=i) bg;have g0:=E.free i;have n:=yz (aA.set i k3 ai (by omega));clear I P ah l E aA;go_wp2;go_roundw
   case rel=>exact⟨i+1,by omega,by go_num,n⟩
   case measure=>simp[ϋ]<;>omega
  ·have bs:i=N:=by omega
   go_wp2_with fail;refine(bz b 6 _ (yx l).src (by omega)).mono ?_;rintro e w3 ⟨k3,rfl,ai,ah,_,I,P⟩;have a3:=ah (by omega);have B:=yz ((yx l).call I P);clear I P ah l;obtain⟨kn,rfl⟩:=Int.eq_ofNat_of_zero_le ai;go_wp2;go_loopw [6] (fun kk wr=>∃q:Nat,q<=5/\kk=J Z q/\Hid (iB w wr b w.1.size fb g N h C ⟨#[]⟩)) (fun kk _=>(ϋ kk).toNat)
   case atStart=>exact⟨kn,by omega,rfl,B⟩
   case round=>
    clear B;obtain⟨q,hq,rfl,l⟩:=hrel;by_cases bF:0<q
    ·have bw:(0:Int)<(q:Int):=by omega
     go_wp2_with fail;refine(bz b (N:Int) _ (yx l).src (by omega)).mono ?_;rintro e w4 ⟨k4,rfl,au,ak,_,ad,ag⟩;have a4:=ak (by omega);have c:=yz ((yx l).call ad ag);clear ad ag ak l;obtain⟨A,rfl⟩:=Int.eq_ofNat_of_zero_le au;have bf:A<N:=by omega
     go_wp2_with fail;refine(bz b 150 _ (yx c).src (by omega)).mono ?_;rintro e w5 ⟨k5,rfl,av,al,_,ae,ab⟩;have a5:=al (by omega);have y:=(yx c).call ae ab;obtain⟨bA,bp,U⟩:=y.row;have c0:=U.cell (j:=A) bf;have g0:=U.free A;have W:=yz (y.set A (50+k5) (by omega) (by omega));clear ae ab al c U y;go_wp2_with fail;generalize w5.setCell ⟨g,A,ν⟩ (.int .u8 (50+k5))=W5 at W ⊢;clear c0 g0;refine(bW b 2 _ (yx W).src (by omega)).mono ?_;rintro e w6 ⟨y6,rfl,aO,aR⟩;have t:=yz ((yx W).call aO aR);clear aO aR W;cases y6
     ·go_wp2_with fail;refine(bW b 3 _ (yx t).src (by omega)).mono ?_;rintro e w8 ⟨y8,rfl,L,Q⟩;have d:=yz ((yx t).call L Q);clear L Q t;have F:=(yx d).fr.cell 0 _ rfl;cases y8
      ·clear F;go_wp2;go_roundw
       case rel=>exact⟨q-1,by omega,by go_num,d⟩
       case measure=>simp[ϋ]<;>omega
      by_cases aW:A<h
      ·have aa:¬(h:Int)<=(A:Int):=by omega
       go_wp2;go_roundw
       case rel=>exact⟨q-1,by omega,by go_num,d⟩
       case measure=>simp[ϋ]<;>omega
      have aa:(h:Int)<=(A:Int):=by omega
      obtain⟨r,aQ⟩:∃r:Nat,(A:Int)-(h:Int)=(r:Int):=⟨A-h,by omega⟩
      have O:r<N:=by omega
      have af:(r:Int)<(N:Int):=by omega
      have ba:IntKind.i64.wrap (r:Int)=(r:Int):=by unfold IntKind.wrap;simp[IntKind.signed,IntKind.bits];omega
      go_wp2;refine wp_region_held_drew (S:=(fun w'=>w'.cell? ⟨fb,0,ν⟩=ς (J Z (h:Int)))) (by kernel_rfl) ?_ (fun ac=>?_)
      ·exact F
      refine tkO 0 rfl ?_;refine tkO 1 rfl ?_;refine tkO 2 rfl ?_;refine tkO 3 rfl ?_;refine tkO 4 rfl ?_;refine tkO 5 rfl ?_;refine rd1 6 rfl fun K H=>?_;go_simp;refine(bz b 80 _ (yx d).drewn.src (by omega)).mono ?_;rintro e w9 ⟨k9,rfl,ax,T,_,M,R⟩;have aw:=T (by omega);have u:=(yx d).drewn.call M R;have f9:=u.fr.cell 0 _ rfl;refine H.out _ _ (f9) fun Y=>?_;clear H K;refine tkO 7 rfl ?_;refine tkO 8 rfl ?_;refine tkO 9 rfl ?_;refine rd1 10 rfl fun K H=>?_;obtain⟨aL,ap,f⟩:=u.row;have c9:=f.cell (j:=r) O;have g9:=f.free r;have o:=u.set r (IntKind.u8.wrap (IntKind.i64.wrap (20+k9))) (zq _).1 (zq _).2;have G:=o.fr.cell 0 _ rfl;have m:=yz o;go_simp;refine H.out _ _ (G) fun x=>?_;clear H K;refine rdn ?_;clear M R T u f9 f c9 g9 o G x d F;generalize w9.setCell ⟨g,r,ν⟩ (.int .u8 (IntKind.u8.wrap (IntKind.i64.wrap (20+k9))))=aK at m ⊢;go_wp2;go_roundw
      case rel=>exact⟨q-1,by omega,by go_num,m⟩
      case measure=>simp[ϋ]<;>omega
     by_cases bE:N<=A+1
     ·have ar:¬(A:Int)+1<(N:Int):=by omega
      go_wp2_with fail;clear ar;refine(bW b 3 _ (yx t).src (by omega)).mono ?_;rintro e w8 ⟨y8,rfl,L,Q⟩;have d:=yz ((yx t).call L Q);clear L Q t;have F:=(yx d).fr.cell 0 _ rfl;cases y8
      ·clear F;go_wp2;go_roundw
       case rel=>exact⟨q-1,by omega,by go_num,d⟩
       case measure=>simp[ϋ]<;>omega
      by_cases aW:A<h
      ·exfalso;omega
      have aa:(h:Int)<=(A:Int):=by omega
      obtain⟨r,aQ⟩:∃r:Nat,(A:Int)-(h:Int)=(r:Int):=⟨A-h,by omega⟩
      have O:r<N:=by omega
      have af:(r:Int)<(N:Int):=by omega
      have ba:IntKind.i64.wrap (r:Int)=(r:Int):=by unfold IntKind.wrap;simp[IntKind.signed,IntKind.bits];omega
      go_wp2;refine wp_region_held_drew (S:=(fun w'=>w'.cell? ⟨fb,0,ν⟩=ς (J Z (h:Int)))) (by kernel_rfl) ?_ (fun ac=>?_)
      ·exact F
      refine tkO 0 rfl ?_;refine tkO 1 rfl ?_;refine tkO 2 rfl ?_;refine tkO 3 rfl ?_;refine tkO 4 rfl ?_;refine tkO 5 rfl ?_;refine rd1 6 rfl fun K H=>?_;go_simp;refine(bz b 80 _ (yx d).drewn.src (by omega)).mono ?_;rintro e w9 ⟨k9,rfl,ax,T,_,M,R⟩;have aw:=T (by omega);have u:=(yx d).drewn.call M R;have f9:=u.fr.cell 0 _ rfl;refine H.out _ _ (f9) fun Y=>?_;clear H K;refine tkO 7 rfl ?_;refine tkO 8 rfl ?_;refine tkO 9 rfl ?_;refine rd1 10 rfl fun K H=>?_;obtain⟨aL,ap,f⟩:=u.row;have c9:=f.cell (j:=r) O;have g9:=f.free r;have o:=u.set r (IntKind.u8.wrap (IntKind.i64.wrap (20+k9))) (zq _).1 (zq _).2;have G:=o.fr.cell 0 _ rfl;have m:=yz o;go_simp;refine H.out _ _ (G) fun x=>?_;clear H K;refine rdn ?_;clear M R T u f9 f c9 g9 o G x d F;generalize w9.setCell ⟨g,r,ν⟩ (.int .u8 (IntKind.u8.wrap (IntKind.i64.wrap (20+k9))))=aK at m ⊢;go_wp2;go_roundw
      case rel=>exact⟨q-1,by omega,by go_num,m⟩
      case measure=>simp[ϋ]<;>omega
     have ar:(A:Int)+1<(N:Int):=by omega
     go_wp2_with fail;refine(bz b 80 _ (yx t).src (by omega)).mono ?_;rintro e w7 ⟨k7,rfl,bv,a6,_,aP,aS⟩;have bu:=a6 (by omega);have aB:=(yx t).call aP aS;obtain⟨bB,bq,V⟩:=aB.row;have c7:=V.cell (j:=A+1) (by omega);have g7:=V.free (A+1);have X:=yz (aB.set (A+1) (20+k7) (by omega) (by omega));clear aP aS a6 t V aB;go_wp2_with fail;generalize w7.setCell ⟨g,A+1,ν⟩ (.int .u8 (20+k7))=W7 at X ⊢;clear c7 g7;refine(bW b 3 _ (yx X).src (by omega)).mono ?_;rintro e w8 ⟨y8,rfl,L,Q⟩;have d:=yz ((yx X).call L Q);clear L Q X;have F:=(yx d).fr.cell 0 _ rfl;cases y8
     ·clear F;go_wp2;go_roundw
      case rel=>exact⟨q-1,by omega,by go_num,d⟩
      case measure=>simp[ϋ]<;>omega
     by_cases aW:A<h
     ·have aa:¬(h:Int)<=(A:Int):=by omega
      go_wp2;go_roundw
      case rel=>exact⟨q-1,by omega,by go_num,d⟩
      case measure=>simp[ϋ]<;>omega
     have aa:(h:Int)<=(A:Int):=by omega
     obtain⟨r,aQ⟩:∃r:Nat,(A:Int)-(h:Int)=(r:Int):=⟨A-h,by omega⟩
     have O:r<N:=by omega
     have af:(r:Int)<(N:Int):=by omega
     have ba:IntKind.i64.wrap (r:Int)=(r:Int):=by unfold IntKind.wrap;simp[IntKind.signed,IntKind.bits];omega
     go_wp2;refine wp_region_held_drew (S:=(fun w'=>w'.cell? ⟨fb,0,ν⟩=ς (J Z (h:Int)))) (by kernel_rfl) ?_ (fun ac=>?_)
     ·exact F
     refine tkO 0 rfl ?_;refine tkO 1 rfl ?_;refine tkO 2 rfl ?_;refine tkO 3 rfl ?_;refine tkO 4 rfl ?_;refine tkO 5 rfl ?_;refine rd1 6 rfl fun K H=>?_;go_simp;refine(bz b 80 _ (yx d).drewn.src (by omega)).mono ?_;rintro e w9 ⟨k9,rfl,ax,T,_,M,R⟩;have aw:=T (by omega);have u:=(yx d).drewn.call M R;have f9:=u.fr.cell 0 _ rfl;refine H.out _ _ (f9) fun Y=>?_;clear H K;refine tkO 7 rfl ?_;refine tkO 8 rfl ?_;refine tkO 9 rfl ?_;refine rd1 10 rfl fun K H=>?_;obtain⟨aL,ap,f⟩:=u.row;have c9:=f.cell (j:=r) O;have g9:=f.free r;have o:=u.set r (IntKind.u8.wrap (IntKind.i64.wrap (20+k9))) (zq _).1 (zq _).2;have G:=o.fr.cell 0 _ rfl;have m:=yz o;go_simp;refine H.out _ _ (G) fun x=>?_;clear H K;refine rdn ?_;clear M R T u f9 f c9 g9 o G x d F;generalize w9.setCell ⟨g,r,ν⟩ (.int .u8 (IntKind.u8.wrap (IntKind.i64.wrap (20+k9))))=aK at m ⊢;go_wp2;go_roundw
     case rel=>exact⟨q-1,by omega,by go_num,m⟩
     case measure=>simp[ϋ]<;>omega
    ·have a8:q=0:=by omega
     subst a8;obtain⟨sx,bG,be⟩:=(yx l).row.conv N;have F:=dT ((yx l).fr);have e2:=(yx l).fr.free 2;have B:=yz ((yx l).px sx);clear l;go_wp2_with fail;clear F e2 be;generalize wr.setCell ⟨fb,2,ν⟩ (τ sx)=W2 at B ⊢;refine(bW b 12 _ (yx B).src (by omega)).mono ?_;rintro e w3 ⟨y3,rfl,I,P⟩;have n:=yz ((yx B).call I P);clear I P B;cases y3
     ·have F:=(yx n).fr.cell 0 _ rfl;have f1:=(yx n).fr.cell 1 _ rfl;have f2:=(yx n).fr.cell 2 _ rfl;obtain⟨r0,r1,r2⟩:=dT ((yx n).res);have x0:=ng ((yx n).res);have p:=(yx n).ends (J Z (h:Int)) (J Z (C:Int)) (τ sx);go_wp2;exact ϊ (v:=κ #[J Z (h:Int),J Z (C:Int),τ sx]) (by simp[results,results83,go_sem,r0,r1,r2]) rfl ⟨_,_,_,rfl,by omega,p.1,p.2⟩
     go_wp2_with fail;refine(bz b 3 _ (yx n).src (by omega)).mono ?_;rintro e w4 ⟨k4,rfl,au,ak,_,ad,ag⟩;have a4:=ak (by omega);have c:=yz ((yx n).call ad ag);clear ad ag ak n;have F:=dT ((yx c).fr);have e0:=ng ((yx c).fr);have aD:k4=0\/k4=1\/k4=2:=by omega
     rcases aD with rfl | rfl | rfl
     ·go_wp2_with fail;refine(bz b 3 _ ((yx c).src.allocsF _) (by omega)).mono ?_;rintro e w5 ⟨k5,rfl,av,al,_,ae,ab⟩;have a5:=al (by omega);obtain⟨i5,rfl⟩:=Int.eq_ofNat_of_zero_le av;have y:=((yx c).alloc (ξ #[J Z 0,J Z 16,J Z 17] 2)).call ae ab;have L5:Blk w5 w4.1.size [J Z 0,J Z 16,J Z 17] 2:=(aq w4 [J Z 0,J Z 16,J Z 17] 2).grownC ab (by have:=(yx c).src.lt;omega)
      obtain⟨z5,bb⟩:∃z:Int,([J Z 0,J Z 16,J Z 17]:List μ)[i5]? = ς (J Z z):=by
       have:i5=0\/i5=1\/i5=2:=by omega
       rcases this with rfl | rfl | rfl<;>exact⟨_,rfl⟩
      have c5:=L5.cell i5 _ bb;have g0:=y.fr.cell 0 _ rfl;have h0:=y.fr.free 0;have aJ:=y.wdSet z5;have p:=aJ.ends (J Z z5) (J Z (C:Int)) (τ sx);have g1:=y.fr.cell 1 _ rfl;have g2:=y.fr.cell 2 _ rfl;obtain⟨r0,r1,r2⟩:=dT (y.res);have x0:=ng (y.res);have br:(i5:Int)<3:=by omega
      have a7:fb≠w.1.size:=by have:=y.lf;omega
      clear ae ab al y aJ L5 bb c F e0;go_wp2;exact ϊ (v:=κ #[J Z z5,J Z (C:Int),τ sx]) (by simp[results,results83,go_sem,r0,r1,r2]) rfl ⟨_,_,_,rfl,by first | omega | (simp;omega),p.1,p.2⟩
     ·have bo:¬sx.size+1>9223372036854775807:=by omega
      have bj:(sx ++ ⟨#[120]⟩:ByteArray).size<=200:=by simp;show sx.size+1<=200;omega
      have p:=((yx c).px (sx ++ ⟨#[120]⟩)).ends (J Z (h:Int)) (J Z (C:Int)) (τ (sx ++ ⟨#[120]⟩));obtain⟨r0,r1,r2⟩:=dT ((yx c).res);have x0:=ng ((yx c).res);have a7:fb≠w.1.size:=by have:=(yx c).lf;omega
      clear c;go_wp2;exact ϊ (v:=κ #[J Z (h:Int),J Z (C:Int),τ (sx ++ ⟨#[120]⟩)]) (by simp[results,results83,go_sem,r0,r1,r2]) rfl ⟨_,_,_,rfl,bj,p.1,p.2⟩
     ·have p:=(((yx c).htSet (-(C:Int))).wdSet (-(h:Int))).ends (J Z (-(h:Int))) (J Z (-(C:Int))) (τ sx);obtain⟨r0,r1,r2⟩:=dT ((yx c).res);have x0:=ng ((yx c).res);have a7:fb≠w.1.size:=by have:=(yx c).lf;omega
      clear c;go_wp2;exact ϊ (v:=κ #[J Z (-(h:Int)),J Z (-(C:Int)),τ sx]) (by simp[results,results83,go_sem,r0,r1,r2]) rfl ⟨_,_,_,rfl,by first | omega | (simp;omega),p.1,p.2⟩
end
structure Cm where
 kind:Int
 A:Int
 B:Int
 C:Int
 D:Int
 S:List D3
 wd:Int
 ht:Int
 px:ByteArray
 lv:Int
 fo:Int
def fr0(wd ht:Int)(px:ByteArray):Bool:=decide (wd=0)&&decide (ht=0)&&decide (px.toList=[])
def iF(c:Cm):Bool:=fr0 c.wd c.ht c.px&&decide (c.lv=0)&&decide (c.fo=0)
def noS(S:List D3):Bool:=decide (S.length=0)
def tz(c:Cm):Bool:=eqT c.A c.B c.C c.D 0 0 0 0
def bA(c:Cm):Bool:=
 if c.kind=1 then tz c&&noS c.S&&iF c
 else if c.kind=2 then aG c.A c.B c.C c.D&&noS c.S&&iF c
 else if c.kind=3 then tz c&&aQ c.S&&iF c
 else if c.kind=4 then tz c&&noS c.S&&dP c.wd c.ht c.px&&bG 0 255 c.lv&&bG 1 40 c.fo
 else false
theorem Bq{c:Cm}(h:c.kind=1):bA c=(tz c&&noS c.S&&iF c):=by unfold bA;rw[if_pos h]
theorem uM{c:Cm}(h:c.kind=2):bA c=(aG c.A c.B c.C c.D&&noS c.S&&iF c):=by unfold bA;rw[if_neg (by omega),if_pos h]
theorem oR{c:Cm}(h:c.kind=3):bA c=(tz c&&aQ c.S&&iF c):=by unfold bA;rw[if_neg (by omega),if_neg (by omega),if_pos h]
theorem oS{c:Cm}(h:c.kind=4):bA c=(tz c&&noS c.S&&dP c.wd c.ht c.px&&bG 0 255 c.lv&&bG 1 40 c.fo):=by unfold bA;rw[if_neg (by omega),if_neg (by omega),if_neg (by omega),if_pos h]
theorem Fw{c:Cm}(a:c.kind≠1)(b:c.kind≠2)(d:c.kind≠3)(e:c.kind≠4):bA c=false:=by unfold bA;rw[if_neg a,if_neg b,if_neg d,if_neg e]
theorem SAt.c4{w:ω}{b:Nat}{x y z u:μ}(h:SAt w b [x,y,z,u]):w.cell? ⟨b,0,ν⟩=ς x/\w.cell? ⟨b,1,ν⟩=ς y/\w.cell? ⟨b,2,ν⟩=ς z/\w.cell? ⟨b,3,ν⟩=ς u:=⟨h 0 x rfl,h 1 y rfl,h 2 z rfl,h 3 u rfl⟩
section
variable {w:ω}
theorem bw{B:Nat}{a:ω}(h:δ B w a){b:Nat}(c:B<=b)(o:Nat)(v:μ):δ B w (a.setCell ⟨b,o,ν⟩ v):=h.setCell c v
theorem nZ{b:Nat}{L:List μ}{t:TypeId}(h:Blk w b L t)(i:L.length=11)(a A B C D g d e c:Int)(f:ByteArray)(v:μ):Blk (((((((((((w.setCell ⟨b,0,ν⟩ (J Z a)).setCell ⟨b,1,ν⟩ (J Z A)).setCell ⟨b,2,ν⟩ (J Z B)).setCell ⟨b,3,ν⟩ (J Z C)).setCell ⟨b,4,ν⟩ (J Z D)).setCell ⟨b,5,ν⟩ v).setCell ⟨b,6,ν⟩ (J Z g)).setCell ⟨b,7,ν⟩ (J Z d)).setCell ⟨b,8,ν⟩ (τ f)).setCell ⟨b,9,ν⟩ (J Z e)).setCell ⟨b,10,ν⟩ (J Z c)) b [J Z a,J Z A,J Z B,J Z C,J Z D,v,J Z g,J Z d,τ f,J Z e,J Z c] t:=by
 match L,i with
 | [x0,x1,x2,x3,x4,x5,x6,x7,x8,x9,x10],_=>exact((((((((((h.set 0 _).set 1 _).set 2 _).set 3 _).set 4 _).set 5 _).set 6 _).set 7 _).set 8 _).set 9 _).set 10 _
end
def d8(n:Int):UInt8:=UInt8.ofNat (48+n.toNat)
theorem NC(w:ω)(k:UInt8):(convert 22 9 (σ (ς ⟨w.1.size,0,ν⟩) 1 1)).run prog (w.alloc (ξ #[.int .u8 (k.toNat:Int)] 5))=.ok (τ ⟨#[k]⟩) (w.alloc (ξ #[.int .u8 (k.toNat:Int)] 5)):=
 od w 5 #[.int .u8 (k.toNat:Int)] ⟨#[k]⟩ (by simp[Lib.byteCells]) 1
theorem qI(c:UInt8):(ByteArray.mk #[c]).size=1:=rfl
theorem js(w:ω)(n:Nat)(a:Option Nat):w.grownBy (w.drewN n) a:=⟨rfl,rfl,rfl,ύ _,fun _ _ _=>rfl⟩
theorem aY.drewNs{b:Nat}{w:ω}(h:aY b w)(n:Nat):aY b (w.drewN n):=h.kept (js w n ν) (fun _ e=>by cases e)
end Go.Proofs.YtnnhjegapofopaaGreatDoor
