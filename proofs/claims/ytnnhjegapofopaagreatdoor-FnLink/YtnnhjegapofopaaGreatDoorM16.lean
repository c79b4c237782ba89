import Derived.Deep.CutBlock
import Derived.Test.YtnnhjegapofopaaGreatDoorM15
namespace Go.Proofs.YtnnhjegapofopaaGreatDoor
set_option linter.all false
set_option maxRecDepth 100000
set_option maxHeartbeats 8000000
open Go.RowKit Go.Sort Go.Proofs.Tryz
open Go.Value renaming int -> J,slice -> σ,string -> τ,agg -> κ,pointer -> π
open Go.Obj renaming cells -> ξ
open Go.Ending renaming returned -> ρ
open Go renaming World -> ω,Value -> μ,Calls -> χ,Addr -> η,bodyPost_ret -> ϊ
open Go.RowKit renaming Below -> δ,intOf -> ϋ
open Option renaming none -> ν,some -> ς
open Bool renaming true -> θ,false -> φ,and_eq_true -> ϐ
open Option.some renaming inj -> ό
open Nat renaming le_refl -> ύ,le_trans -> ώ,lt_of_lt_of_le -> Ϗ
open List renaming getElem?_append_right -> ϑ
open Go.IntKind renaming i64 -> Z
section
open Go.RowKit Go.Sort Go.Shelf
def MD(w':ω)(B:Nat)(ids:List Int)(cnt code:Int)(e:Ending):Prop:=∃v,e=ρ (κ #[v,J Z cnt,J Z code])/\((ids=[]/\v=σ ν 0 0)\/∃g,v=σ (ς ⟨g,0,ν⟩) ids.length ids.length/\B<=g/\cu w' 2 g (ids.length*1) (vW ids))
theorem lO(T:Array μ)(X:ω)(b:Nat)(v:μ)(c k:Int)(a:T.getD 4 undef=π (ς ⟨b,0,ν⟩))(h:IdO X b v c k):(results f191 T).run prog X=.ok (κ #[v,J Z c,J Z k]) X:=by
 obtain⟨d,e,f⟩:=h;simp only[Array.getD_eq_getD_getElem?]at a;simp[results,results191,go_sem,a,d,e,f]
theorem wB{W:ω}{x g m:Nat}{t:TypeId}{f:Nat->μ}(h:cu W t g m f)(b:g≠x)(o:Nat)(v:μ):cu (W.setCell ⟨x,o,ν⟩ v) t g m f:=by
 obtain⟨a,c,d⟩:=h;exact⟨a,by rw[Below.heap_setCell W ⟨x,o,ν⟩ v g b];exact c,d⟩
theorem BJ:∀(X:List (List Int)) (g:List Int×Nat),(X.foldl et g).2<=g.2+X.length
 | [],g=>by simp
 | x :: X,g=>by
  have a:=BJ X (et g x)
  have b:(et g x).2<=g.2+1:=by
   unfold et;split
   ·exact Nat.le_succ _
   ·split
    ·show 1<=g.2+1;omega
    ·exact ύ _
  rw[List.foldl_cons,List.length_cons];omega
theorem GW(L:List St)(S:List D3)(d:bE L=θ)(e:S.length<=6):(eD L S).2<=4826809:=by
 have a:=BJ (gJ (ey L S) (L.map (·.1)) S.length []) ([],0);have f:=qd (ey L S) (L.map (·.1)) (by rw[List.length_map];exact(ff d).1) S.length [];have b:13 ^ S.length<=13 ^ 6:=Nat.pow_le_pow_right (by omega) e;have c:(13:Nat) ^ 6=4826809:=by decide
 unfold eD;rw[c]at b;exact ώ a (by show 0+_<=_;omega)
theorem jY{a:ω}{B:Nat}{L:List St}{S:List D3}{k:Int}(h:ei L S=[]/\je L S=0/\fU L S=k):MD a B (ei L S) (je L S) (fU L S) (ρ (κ #[σ ν 0 0,J Z 0,J Z k])):=by
 rw[h.1,h.2.1,h.2.2];exact⟨_,rfl,.inl ⟨rfl,rfl⟩⟩
theorem zV(L:List St)(S:List D3)(A B:Option η)(C D:Nat)(p:η)(w:ω)(hn:L.length<=1048576)(hm:S.length<=1048576)(ae:L.length<=C)(ad:C<=9223372036854775807)(ag:S.length<=D)(af:D<=9223372036854775807)(hS:aO w A L L.length)(hD:bu w B S S.length)(hA:∀y,A=ς y->y.block<w.1.size)(hB:∀y,B=ς y->y.block<w.1.size)(hE:bQ p w):
  χ prog 191 #[σ A L.length C,σ B S.length D] w fun e w'=>MD w' w.1.size (ei L S) (je L S) (fU L S) e/\δ w.1.size w w':=by
 have E:=an w (ξ #[σ ν 0 0,J Z 0,J Z 0] 192);by_cases f:400<L.length\/400<S.length
 ·have d:=yz (yw f);by_cases h4:400<L.length
  ·have K:(400:Int)<(L.length:Int):=by omega
   go_enter func191,ntmps191;go_wp2;exact ϊ (v:=κ #[σ ν 0 0,J Z 0,J Z 2]) (by simp[results,results191,go_sem]) rfl ⟨jY (yx d),an _ _⟩
  ·have K:¬(400:Int)<(L.length:Int):=by omega
   have ac:(400:Int)<(S.length:Int):=by omega
   go_enter func191,ntmps191;go_wp2;exact ϊ (v:=κ #[σ ν 0 0,J Z 0,J Z 2]) (by simp[results,results191,go_sem]) rfl ⟨jY (yx d),an _ _⟩
 have K:¬(400:Int)<(L.length:Int):=by omega
 have ac:¬(400:Int)<(S.length:Int):=by omega
 have R0:IdO (w.alloc (ξ #[σ ν 0 0,J Z 0,J Z 0] 192)) w.1.size (σ ν 0 0) 0 0:=by refine⟨?_,?_,?_⟩<;>simp
 have F0:kf (w.alloc (ξ #[σ ν 0 0,J Z 0,J Z 0] 192)) w.1.size:=fun i=>by simp
 have U:w.1.size+1<=(w.alloc (ξ #[σ ν 0 0,J Z 0,J Z 0] 192)).1.size:=by simp
 have cS:=yz (fun (W:ω) h h2=>iT L A C p W hn ae ad h h2);have HE:=yz (hE.kept E);have cD:=yz (fun (W:ω) h=>gx S B D W hm ag af h);have HB:=yz E;have HR:=yz R0;have HF:=yz F0;have HS:=yz (hS.kept E);have HD:=yz (hD.kept E);clear E R0 F0 hS hD hE;go_enter func191,ntmps191;go_wp2_with fail;generalize hW:w.alloc (ξ #[σ ν 0 0,J Z 0,J Z 0] 192)=W at *;clear hW;refine(yx cS _ (yx HS) (yx HE)).mono ?_;rintro e w1 ⟨rfl,b⟩;have B1:=aB HB b;have R1:=ap HR b;have H:=yz ((yx HF).kept (by omega) b);have S1:=ap HS b;have D1:=ap HD b;have l:w.1.size+1<=w1.1.size:=ώ U b.size;clear b HB HR HF HS HD U cS;cases P:bE L
 ·have d:=yz (vB f (by unfold ts;rw[P];rfl));obtain⟨u,x,z⟩:=yx R1;have m:=yx H 0;have o:=yx H 1;have q:=yx H 2;go_wp2_with fail;clear u x z m o q;exact ϊ (v:=κ #[σ ν 0 0,J Z 0,J Z 1]) (lO _ _ w.1.size _ 0 1 rfl (kM (yx R1) _ _ _)) rfl ⟨jY (yx d),((((yx B1).setCell (ύ _) _).setCell (ύ _) _).setCell (ύ _) _)⟩
 go_wp2_with fail;refine(yx cD _ (yx D1)).mono ?_;rintro e w2 ⟨rfl,b⟩;have B2:=aB B1 b;have R2:=ap R1 b;have I:=yz ((yx H).kept (by omega) b);have S2:=ap S1 b;have D2:=ap D1 b;have V:w.1.size+1<=w2.1.size:=ώ l b.size;clear b B1 R1 H S1 D1 l cD;cases hp:aQ S
 ·have d:=yz (vB f (by unfold ts;rw[hp,Bool.and_false]));obtain⟨u,x,z⟩:=yx R2;have m:=yx I 0;have o:=yx I 1;have q:=yx I 2;go_wp2_with fail;clear u x z m o q;exact ϊ (v:=κ #[σ ν 0 0,J Z 0,J Z 1]) (lO _ _ w.1.size _ 0 1 rfl (kM (yx R2) _ _ _)) rfl ⟨jY (yx d),((((yx B2).setCell (ύ _) _).setCell (ύ _) _).setCell (ύ _) _)⟩
 have d:=yz (on f (by unfold ts;rw[P,hp];rfl));have T:S.length<=6:=(bN hp).1;have O:=GW L S P T;clear hp;go_wp2_with fail;refine(Ct L S A B C D w2).mono ?_;rintro e w3 ⟨rfl,p1,p2,b⟩;have B3:=aB B2 b;have R3:=ap R2 b;have F3:=yz ((yx I).kept (by omega) b);have S3:=ap S2 b;have F:=ap D2 b;have X:w.1.size+1<=w3.1.size:=ώ V b.size;have cG:=yz ((callsIn_wide (n:=0)).1 (zS L S A B C D w2.1.size (w2.1.size+1) w3 P T p1 p2 (yx S3) (yx F) (fun y e=>by have:=hA y e;omega) (fun y e=>by have:=hB y e;omega) 0));clear p1 p2 b B2 R2 I S2 D2 P;go_wp2_with fail;refine(yx cG).mono ?_;rintro e w4 ⟨⟨v,rfl,hv⟩,b,Q⟩;have B4:=aB B3 b;have R4:=ap R3 b;have F4:=yz ((yx F3).kept (by omega) b);have ai:w.1.size+1<=w4.1.size:=ώ X b.size;have Y:=yz hv;clear b hv B3 R3 F3 S3 F cG;rw[au (n:=((eD L S).2:Int)) (by omega) (by omega)];have j:=yz (pk L S);obtain⟨Gi,M⟩:∃G,(eD L S)=G:=⟨_,rfl⟩
 rw[M]at Y j O Q ⊢;clear M;obtain⟨k,r⟩:=Gi;dsimp only at Y j O Q ⊢;obtain⟨u,x,z⟩:=yx R4;have m:=yx F4 0;have o:=yx F4 1;have q:=yx F4 2;by_cases c0:r=0
 ·have aa:(r:Int)=0:=by omega
  go_wp2_with fail;clear u x z m o q;have s:ei L S=[]/\je L S=0/\fU L S=6:=⟨by rw[(yx d).1,(yx j).1,if_neg (by omega)],by rw[(yx d).2.1,(yx j).2.1,if_neg (by omega)],by rw[(yx d).2.2,(yx j).2.2,if_pos c0]⟩
  exact ϊ (v:=κ #[σ ν 0 0,J Z 0,J Z 6]) (lO _ _ w.1.size _ 0 6 rfl (kM (yx R4) _ _ _)) rfl ⟨jY s,((((yx B4).setCell (ύ _) _).setCell (ύ _) _).setCell (ύ _) _)⟩
 have aa:¬(r:Int)=0:=by omega
 by_cases c1:1<r
 ·have ab:(1:Int)<(r:Int):=by omega
  go_wp2_with fail;clear u x z m o q;have s:ei L S=[]/\je L S=0/\fU L S=11:=⟨by rw[(yx d).1,(yx j).1,if_neg (by omega)],by rw[(yx d).2.1,(yx j).2.1,if_neg (by omega)],by rw[(yx d).2.2,(yx j).2.2,if_neg c0,if_pos c1]⟩
  exact ϊ (v:=κ #[σ ν 0 0,J Z 0,J Z 11]) (lO _ _ w.1.size _ 0 11 rfl (kM (yx R4) _ _ _)) rfl ⟨jY s,((((yx B4).setCell (ύ _) _).setCell (ύ _) _).setCell (ύ _) _)⟩
 have ab:¬(1:Int)<(r:Int):=by omega
 have N:r=1:=by omega
 have s:ei L S=k/\je L S=(bd k:Int)/\fU L S=0:=⟨by rw[(yx d).1,(yx j).1,if_pos N],by rw[(yx d).2.1,(yx j).2.1,if_pos N],by rw[(yx d).2.2,(yx j).2.2,if_neg c0,if_neg c1]⟩
 obtain⟨va,vc,rfl,R⟩:∃a c,v=σ a k.length c/\jx w4 a k k.length:=by
  rcases yx Y with ⟨e1,e2⟩ | ⟨g,e,_,hr⟩
  ·exact⟨ν,0,by rw[e1,e2];rfl,.inl (by rw[e1];rfl)⟩
  ·exact⟨_,_,e,qG hr⟩
 have cN:=yz (iH k va vc w4 (by omega) R);clear R;go_wp2_with fail;refine(yx cN).mono ?_;rintro e w5 ⟨rfl,ah⟩;subst ah;go_wp2_with fail;clear u x z m o q;rw[s.1,s.2.1,s.2.2];refine ϊ (v:=κ #[σ va k.length vc,J Z (bd k:Int),J Z 0]) (lO _ _ w.1.size _ (bd k:Int) 0 rfl (kM (yx R4) _ _ _)) rfl ⟨⟨_,rfl,?_⟩,((((yx B4).setCell (ύ _) _).setCell (ύ _) _).setCell (ύ _) _)⟩;rcases yx Y with h | ⟨g,e,hg,hr⟩
 ·exact .inl h
 ·have t:g≠w.1.size:=by omega
  exact .inr ⟨g,e,by omega,wB (wB (wB hr t 0 _) t 1 _) t 2 _⟩
end
section
def Fo(w':ω)(B:Nat)(c:Cm)(code:Int)(e:Ending):Prop:=∃v,e=ρ (κ #[J Z c.kind,J Z c.A,J Z c.B,J Z c.C,J Z c.D,v,J Z c.wd,J Z c.ht,τ c.px,J Z c.lv,J Z c.fo,J Z code])/\w'.ownsRow B 93 3 v c.S.length (iq c.S)
theorem ie(b:ω)(B:Nat)(a:Int):Fo b B eI a (ρ (κ #[J Z 0,J Z 0,J Z 0,J Z 0,J Z 0,σ ν 0 0,J Z 0,J Z 0,τ ⟨#[]⟩,J Z 0,J Z 0,J Z a])):=⟨_,rfl,World.ownsRow_nil _ _ _ _⟩
variable {w:ω}
theorem gA{b:Nat}{L:List μ}{t:TypeId}(h:Blk w b L t)(o:L.length=12)(d e f g i j k l m n a c:μ):Blk (((((((((((((w).setCell ⟨b,0,ν⟩ (d)).setCell ⟨b,1,ν⟩ (e)).setCell ⟨b,2,ν⟩ (f)).setCell ⟨b,3,ν⟩ (g)).setCell ⟨b,4,ν⟩ (i)).setCell ⟨b,5,ν⟩ (j)).setCell ⟨b,6,ν⟩ (k)).setCell ⟨b,7,ν⟩ (l)).setCell ⟨b,8,ν⟩ (m)).setCell ⟨b,9,ν⟩ (n)).setCell ⟨b,10,ν⟩ (a)).setCell ⟨b,11,ν⟩ (c)) b [d,e,f,g,i,j,k,l,m,n,a,c] t:=by
 match L,o with
 | [x0,x1,x2,x3,x4,x5,x6,x7,x8,x9,x10,x11],_=>exact(((((((((((h.set 0 _).set 1 _).set 2 _).set 3 _).set 4 _).set 5 _).set 6 _).set 7 _).set 8 _).set 9 _).set 10 _).set 11 _
theorem lN(T:Array μ)(X:ω)(b:Nat)(c:Cm)(v:μ)(k:Int)(e:T.getD 2 undef=π (ς ⟨b,0,ν⟩))(h:Blk X b [J Z c.kind,J Z c.A,J Z c.B,J Z c.C,J Z c.D,v,J Z c.wd,J Z c.ht,τ c.px,J Z c.lv,J Z c.fo,J Z k] 34):(results f7 T).run prog X=.ok (κ #[J Z c.kind,J Z c.A,J Z c.B,J Z c.C,J Z c.D,v,J Z c.wd,J Z c.ht,τ c.px,J Z c.lv,J Z c.fo,J Z k]) X:=by
 obtain⟨f,g,i,j,l,m,n,o,p,q,a,d⟩:=dR (h);simp only[Array.getD_eq_getD_getElem?]at e;simp[results,results7,go_sem,e,f,g,i,j,l,m,n,o,p,q,a,d]
theorem jc(b:Nat)(L:List μ)(u:TypeId)(z:μ)(c:List PanicEntry)(w:ω)(W:L.length=12)(a:Blk w b L 34):
  CallsD prog 41 #[π (ς ⟨b,0,ν⟩)] (.panicking ({ v:=.iface u z,recovered:=φ } :: c)) w fun e Y w'=>
   e=ρ (.tuple #[])/\Y=.panicking ({ v:=.iface u z,recovered:=θ } :: c)/\w'=((((((((((((w).setCell ⟨b,0,ν⟩ (J Z 0)).setCell ⟨b,1,ν⟩ (J Z 0)).setCell ⟨b,2,ν⟩ (J Z 0)).setCell ⟨b,3,ν⟩ (J Z 0)).setCell ⟨b,4,ν⟩ (J Z 0)).setCell ⟨b,5,ν⟩ (σ ν 0 0)).setCell ⟨b,6,ν⟩ (J Z 0)).setCell ⟨b,7,ν⟩ (J Z 0)).setCell ⟨b,8,ν⟩ (τ ⟨#[]⟩)).setCell ⟨b,9,ν⟩ (J Z 0)).setCell ⟨b,10,ν⟩ (J Z 0)).setCell ⟨b,11,ν⟩ (J Z 3):=by
 obtain⟨g,h,i,j,k,l,m,n,o,p,d,f,rfl⟩:∃g h i j k l m n o p d f,L=[g,h,i,j,k,l,m,n,o,p,d,f]:=by
  match L,W with
  | [g,h,i,j,k,l,m,n,o,p,d,f],_=>exact⟨g,h,i,j,k,l,m,n,o,p,d,f,rfl⟩
 have M:=a.cell 0 _ rfl;have A:=a.free 0;have N:=a.cell 1 _ rfl;have B:=a.free 1;have O:=a.cell 2 _ rfl;have C:=a.free 2;have P:=a.cell 3 _ rfl;have D:=a.free 3;have Q:=a.cell 4 _ rfl;have E:=a.free 4;have R:=a.cell 5 _ rfl;have F:=a.free 5;have S:=a.cell 6 _ rfl;have G:=a.free 6;have T:=a.cell 7 _ rfl;have H:=a.free 7;have U:=a.cell 8 _ rfl;have I:=a.free 8;have V:=a.cell 9 _ rfl;have K:=a.free 9;have s:=a.cell 10 _ rfl;have q:=a.free 10;have x:=a.cell 11 _ rfl;have r:=a.free 11;refine callsD_of_wpS func41 rfl fun y cs X=>?_;apply wpS_seq;apply wpS_region;simp[wpOpsS,go_sem,recoverD,X,ntmps41,Exit.thenS];refine wpS_cond (t:=θ) (by simp[Act.eval,Array.replicate]) ?_;simp only[if_true];apply wpS_region;simp[wpOpsS,go_sem,M,A,N,B,O,C,P,D,Q,E,R,F,S,G,T,H,U,I,V,K,s,q,x,r,bodyPostS,results,results41]
theorem Bk(b:Nat)(w:ω):
  CallsD prog 41 #[π (ς ⟨b,0,ν⟩)] .returning w fun e d f=>e=ρ (.tuple #[])/\d=.returning/\f=w:=by
 refine callsD_of_wpS func41 rfl fun a g c=>?_;apply wpS_seq;apply wpS_region;simp[wpOpsS,go_sem,recoverD,c,ntmps41,Exit.thenS];refine wpS_cond (t:=φ) (by simp[Act.eval,Array.replicate]) ?_;simp only[Bool.false_eq_true,if_false];refine wpS_of_wp (wp_skip ?_);cases a;simp_all [bodyPostS,results,results41]
theorem pu{t:ByteArray}{c:Cm}{q:Nat}(h:aV t=ς (c,q)):c.S.length<=6:=by
 unfold aV at h;split at h
 ·cases h
 ·rename_i g i e
  split at h
  ·split at h
   ·cases h
   ·simp at h;obtain⟨rfl,_⟩:=h;simp
  ·split at h
   ·split at h
    ·cases h
    ·rename_i m j a
     split at h
     ·rename_i f
      split at h
      ·cases h
      ·rename_i S k b
       have d:=lM (bg a).2 _ b;simp at h;obtain⟨rfl,_⟩:=h;show S.length<=6;omega
     ·cases h
   ·split at h
    ·split at h
     ·cases h
     ·split at h
      ·cases h
      ·simp at h;obtain⟨rfl,_⟩:=h;simp
    ·simp at h;obtain⟨rfl,_⟩:=h;simp
theorem qk{B:Nat}{S:List D3}{a:Option η}{k:Nat}(h:w.ownsRow B 93 3 (σ a S.length k) S.length (iq S)):bu w a S S.length/\(S.length<=k/\k<=maxLen\/S.length=0/\k=0):=by
 rcases h.2 with ⟨f,m⟩ | ⟨g,p,d,e,E,n,f,v,D,y⟩
 ·injection f with e1 e2 e3;exact⟨.inl m,.inr ⟨m,e3⟩⟩
 ·injection e with e1 e2 e3;subst e1 e3;refine⟨.inr ⟨g,0,rfl,(Array.getElem?_eq_some_iff.1 n).1,fun i b=>?_⟩,.inl ⟨f,v⟩⟩
  have z:∀(S:List D3) (i:Nat),i<S.length->(iq S)[i*3]? = ς (J Z (vA S i).1)/\(iq S)[i*3+1]? = ς (J Z (vA S i).2.1)/\(iq S)[i*3+2]? = ς (J Z (vA S i).2.2):=by
   intro S
   induction S with
   | nil=>intro i b;simp at b
   | cons x S ih=>
    intro i b;have q:iq (x :: S)=tm x ++ iq S:=by unfold iq;simp
    rw[q];cases i with
    | zero=>exact⟨rfl,rfl,rfl⟩
    | succ i=>
     have C:vA (x :: S) (i+1)=vA S i:=by unfold vA;simp
     rw[C];have l:(tm x).length=3:=rfl;have:=ih i (by simpa using b);refine⟨?_,?_,?_⟩
     ·rw[ϑ (by omega),l,show (i+1)*3-3=i*3 by omega];exact this.1
     ·rw[ϑ (by omega),l,show (i+1)*3+1-3=i*3+1 by omega];exact this.2.1
     ·rw[ϑ (by omega),l,show (i+1)*3+2-3=i*3+2 by omega];exact this.2.2
  obtain⟨r,s,t⟩:=z S i b
  have c:∀j u,j<S.length*3->(iq S)[j]? = ς u->w.cell? ⟨g,j,ν⟩=ς u:=by
   intro j u A o;rw[cell_of_row w g j d _ _ n];rw[<-y,List.getElem?_take,if_pos A]at o;simpa using o
  rw[Nat.zero_add];exact⟨c _ _ (by omega) r,c _ _ (by omega) s,c _ _ (by omega) t⟩
theorem FK(b:ByteArray):∀(n i:Nat) (r:List UInt8),b.size-i=n->r≠[]->ByteArray.toList.loop b i r≠[]
 | n,i,r,hn,hr=>by
  unfold ByteArray.toList.loop;split
  ·cases n with
   | zero=>omega
   | succ n=>exact FK b n (i+1) _ (by omega) (by simp)
  ·simpa using hr
theorem kX{b:ByteArray}(h:b.toList=[]):b.size=0:=by
 by_cases a:b.size=0
 ·exact a
 ·exfalso;unfold ByteArray.toList at h;unfold ByteArray.toList.loop at h;rw[if_pos (by omega)]at h;exact FK b _ _ _ rfl (by simp) h
theorem tU{g d e a:Int}{f:ByteArray}(h:fr0 g d f=θ)(b:decide (e=0)=θ)(c:decide (a=0)=θ):g=0/\d=0/\f=⟨#[]⟩/\e=0/\a=0:=by
 unfold fr0 at h;simp only[ϐ,decide_eq_true_eq]at h b c;refine⟨h.1.1,h.1.2,?_,b,c⟩;apply lC
 ·exact kX h.2
 ·intro j i;have:=kX h.2;omega
theorem Ix{c:Cm}(h:bA c=θ)(a:Option η)(k:Nat)(W:ω):
  ∃ bt bv bf, Gt c.kind c.A c.B c.C c.D (.slice a c.S.length k) c.wd c.ht c.px c.lv c.fo = .iface bt bv ∧ (∀ W : World, (method 423 bt bv "loop.example/g00577/impl.command").run Tryz.prog W = .ok (bf, bv) W) ∧ (∀ W : World, (callFunc bf #[bv]).run Tryz.prog W = .ok (.enter bf #[bv]) W) ∧ ∃ v2, (v2 = .slice a c.S.length k ∨ (v2 = .slice none 0 0 ∧ c.S = [])) ∧ ∀ W : World, Calls Tryz.prog bf #[bv] W fun e w' => e = .returned (.agg #[J Z c.kind, J Z c.A, J Z c.B, J Z c.C, J Z c.D, v2, J Z c.wd, J Z c.ht, .string c.px, J Z c.lv, J Z c.fo]) ∧ Below W.heap.size W w' := by
 obtain⟨kind,A,B,C,D,S,wd,ht,px,lv,fo⟩:=c;have hn0:∀S:List D3,noS S=θ->S=[]:=fun S hs=>by unfold noS at hs;exact List.eq_nil_of_length_eq_zero (of_decide_eq_true hs)
 have ht0:∀ {a b c d:Int},eqT a b c d 0 0 0 0=θ->a=0/\b=0/\c=0/\d=0:=fun h=>by unfold eqT at h;exact of_decide_eq_true h
 rcases qO h with e | e | e | e
 ·obtain rfl:kind=1:=e;rw[Bq rfl]at h;unfold tz iF at h;simp only[ϐ]at h;obtain⟨rfl,rfl,rfl,rfl⟩:=ht0 h.1.1;obtain rfl:=hn0 S h.1.2;obtain⟨rfl,rfl,rfl,rfl,rfl⟩:=tU h.2.1.1 h.2.1.2 h.2.2;exact⟨_,_,248,rfl,fun _=>by kernel_rfl,fun _=>by kernel_rfl,_,.inr ⟨rfl,rfl⟩,fun W=>qN W⟩
 ·obtain rfl:kind=2:=e;rw[uM rfl]at h;unfold iF at h;simp only[ϐ]at h;obtain rfl:=hn0 S h.1.2;obtain⟨rfl,rfl,rfl,rfl,rfl⟩:=tU h.2.1.1 h.2.1.2 h.2.2;exact⟨_,_,250,rfl,fun _=>by kernel_rfl,fun _=>by kernel_rfl,_,.inr ⟨rfl,rfl⟩,fun W=>sL A B C D W⟩
 ·obtain rfl:kind=3:=e;rw[oR rfl]at h;unfold tz iF at h;simp only[ϐ]at h;obtain⟨rfl,rfl,rfl,rfl⟩:=ht0 h.1.1;obtain⟨rfl,rfl,rfl,rfl,rfl⟩:=tU h.2.1.1 h.2.1.2 h.2.2;exact⟨_,_,252,rfl,fun _=>by kernel_rfl,fun _=>by kernel_rfl,_,.inl rfl,fun W=>sU a S.length k W⟩
 ·obtain rfl:kind=4:=e;rw[oS rfl]at h;unfold tz at h;simp only[ϐ]at h;obtain⟨rfl,rfl,rfl,rfl⟩:=ht0 h.1.1.1.1;obtain rfl:=hn0 S h.1.1.1.2;exact⟨_,_,254,rfl,fun _=>by kernel_rfl,fun _=>by kernel_rfl,_,.inr ⟨rfl,rfl⟩,fun W=>qo wd ht lv fo px W⟩
theorem gM(s:ByteArray)(p:η)(w:ω)(hs:s.size<=1048576)(hE:dw p w):
  χ prog 7 #[τ s] w fun e w'=>Fo w' w.1.size (gK s) (dO s) e/\δ w.1.size w w':=by
 have B0:=yz (an w (ξ #[J Z 0,J Z 0,J Z 0,J Z 0,J Z 0,σ ν 0 0,J Z 0,J Z 0,τ ⟨#[]⟩,J Z 0,J Z 0,J Z 0] 34));have R0:=yz (aq w [J Z 0,J Z 0,J Z 0,J Z 0,J Z 0,σ ν 0 0,J Z 0,J Z 0,τ ⟨#[]⟩,J Z 0,J Z 0,J Z 0] 34);have HE:=yz hE;clear hE;have ae:∀(fn:Fn) (first I:Array μ) (w:ω),(Instr.makeFunc fn first I).run prog w=.ok (.func fn first I) w:=fun _ _ _ _=>rfl;go_enter_defers func7,ntmps7
 go_wp2_with fail;refine(Ff s _ hs).mono ?_;rintro e w1 ⟨rfl,i⟩;have a:=an w1 (ξ #[τ (unT s),J Z 0,J Z (unC s)] 73);have G:=aB (aB B0 i) a;have u:=aW R0 i a;have P:=yz (aq w1 [τ (unT s),J Z 0,J Z (unC s)] 73);have ab:=(yx u).lt;clear i a B0 R0;by_cases A:unC s=0
 ·have R:=(wZ A).1;have W:=yz (tH (unT s) p _ (by omega) ((yx HE).kept (yx G)));obtain⟨q0,q1,q2⟩:=dT (yx P);rw[A]at q2;have n:Hid (dO s=(match aV (unT s) with | none=>3 | some (c,q)=>if q=(unT s).size/\bA c=θ then 0 else 3)):=yz (by unfold dO;rw[if_pos A];try rfl);have m:Hid (gK s=(match aV (unT s) with | none=>eI | some (c,q)=>if q=(unT s).size/\bA c=θ then c else eI)):=yz (by unfold gK;rw[if_pos A];try rfl);rw[A]at G u P W ab ⊢;go_wp2_with fail;clear q0 q1 q2;refine(yx W).mono ?_;rintro e w2 ⟨d,i⟩;have H:=aB G i;have E:=ap u i;have ac:=i.size;clear W i G u P;unfold xV at d;cases Q:aV (unT s) with
  | none=>
   rw[Q]at d n m;have x:e=em p:=d;subst x;have g:gK s=eI/\dO s=3:=⟨yx m,yx n⟩
   have b:=yz g;clear g;unfold em;go_wp2_with fail;refine leaves_cons (f:=41) (args:=#[π (ς ⟨w.1.size,0,ν⟩)]) (by simp) (by simp[go_sem]) ?_;refine(jc w.1.size _ _ _ [] _ rfl (yx E)).mono ?_;rintro e u' w'' ⟨rfl,rfl,D⟩;subst D;refine⟨_,lN _ _ w.1.size eI (σ ν 0 0) 3 rfl (gA (yx E) rfl _ _ _ _ _ _ _ _ _ _ _ _),?_,?_⟩
   ·rw[(yx b).1,(yx b).2];exact ie _ _ 3
   ·iterate 12 (refine bw ?_ (ύ w.1.size) _ _)
    exact yx H
  | some y=>
   obtain⟨c,q⟩:=y;rw[Q]at d n m;dsimp only at d n m;by_cases F:q=(unT s).size
   ·rw[if_pos F]at d;obtain⟨v,x,j⟩:=d;obtain⟨va,N,rfl⟩:=dZ j;subst x;obtain⟨r,o⟩:=qk j;have aa:maxLen<=9223372036854775807:=by decide +kernel
    have Y:c.S.length<=1048576:=by
     rcases o with h | h
     ·unfold maxLen at h;have:=pu Q;omega
     ·omega
    have C:c.S.length<=N/\N<=9223372036854775807:=by omega
    have cW:=yz (mN c.S c.kind c.A c.B c.C c.D c.wd c.ht c.lv c.fo c.px va N p w2 Y C.1 C.2 r ((yx HE).kept (yx H)));have O2:=yz (eW j (show w.1.size<=_ by omega));have K:∀z,(Value.slice va c.S.length N).ownBlock=ς z->w.1.size<z:=fun z R=>by have:=(j.lt z R).1;omega
    clear j r o aa C Q;unfold cmV;go_wp2_with fail;refine(yx cW).mono ?_;rintro e w3 ⟨k,i⟩;have S:=aB H i;have O:=ap E i;have O3:=yz (vY (yx O2) i);clear i cW H E O2;unfold bm at k;cases t:bA ⟨c.kind,c.A,c.B,c.C,c.D,c.S,c.wd,c.ht,c.px,c.lv,c.fo⟩
    ·rw[t]at k;have x:e=em p:=k;subst x;have g:gK s=eI/\dO s=3:=⟨by rw[yx m,if_neg (fun h=>by have:=h.2;rw[show bA c=φ from t]at this;cases this)],by rw[yx n,if_neg (fun h=>by have:=h.2;rw[show bA c=φ from t]at this;cases this)]⟩
     have b:=yz g;clear g;unfold em;go_wp2_with fail;refine leaves_cons (f:=41) (args:=#[π (ς ⟨w.1.size,0,ν⟩)]) (by simp) (by simp[go_sem]) ?_;refine(jc w.1.size _ _ _ [] _ rfl (yx O)).mono ?_;rintro e u' w'' ⟨rfl,rfl,D⟩;subst D;refine⟨_,lN _ _ w.1.size eI (σ ν 0 0) 3 rfl (gA (yx O) rfl _ _ _ _ _ _ _ _ _ _ _ _),?_,?_⟩
     ·rw[(yx b).1,(yx b).2];exact ie _ _ 3
     ·iterate 12 (refine bw ?_ (ύ w.1.size) _ _)
      exact yx S
    rw[t,if_pos rfl]at k;have g:gK s=c/\dO s=0:=⟨by rw[yx m,if_pos ⟨F,t⟩],by rw[yx n,if_pos ⟨F,t⟩]⟩
    have b:=yz g;obtain⟨bt,bv,bf,M,hm,ad,v2,B,l⟩:=Ix (c:=c) t va N w3;obtain⟨V,n2,k2,rfl⟩:∃V n2 k2,v2=σ V n2 k2:=by rcases B with rfl | ⟨rfl,_⟩<;>exact⟨_,_,_,rfl⟩
    have T:=yz B;have L:e=ρ (.iface bt bv):=by rw[k];exact congrArg _ M
    subst L;have cB:=yz (l w3);clear k M l g t m n B;go_wp2_with fail;refine(yx cB).mono ?_;rintro e w4 ⟨rfl,i⟩;have B4:=aB S i;have U:=ap O i;have O4:=yz (vY (yx O3) i);clear i cB S O O3;have r0:=dR (yx U);have X:=ik (yx U);go_wp2_with fail;clear r0 X;refine leaves_cons (f:=41) (args:=#[π (ς ⟨w.1.size,0,ν⟩)]) (by simp) (by simp[go_sem]) ?_;refine(Bk w.1.size _).mono ?_;rintro e u' w'' ⟨rfl,rfl,D⟩;subst D;refine⟨_,lN _ _ w.1.size c (σ V n2 k2) 0 rfl (gA (yx U) rfl _ _ _ _ _ _ _ _ _ _ _ _),?_,?_⟩
    ·rw[(yx b).1,(yx b).2];refine⟨_,rfl,?_⟩;rcases yx T with h | ⟨h,h0⟩
     ·rw[h];iterate 12 (refine gC ?_ (fun z R=>by have:=K z R;omega) _ _)
      exact yx O4
     ·rw[h,h0];exact World.ownsRow_nil _ _ _ _
    ·iterate 12 (refine bw ?_ (ύ w.1.size) _ _)
     exact yx B4
   ·rw[if_neg F]at d;have x:e=em p:=d;subst x;have g:gK s=eI/\dO s=3:=⟨by rw[yx m,if_neg (fun h=>F h.1)],by rw[yx n,if_neg (fun h=>F h.1)]⟩
    have b:=yz g;clear g;unfold em;go_wp2_with fail;refine leaves_cons (f:=41) (args:=#[π (ς ⟨w.1.size,0,ν⟩)]) (by simp) (by simp[go_sem]) ?_;refine(jc w.1.size _ _ _ [] _ rfl (yx E)).mono ?_;rintro e u' w'' ⟨rfl,rfl,D⟩;subst D;refine⟨_,lN _ _ w.1.size eI (σ ν 0 0) 3 rfl (gA (yx E) rfl _ _ _ _ _ _ _ _ _ _ _ _),?_,?_⟩
    ·rw[(yx b).1,(yx b).2];exact ie _ _ 3
    ·iterate 12 (refine bw ?_ (ύ w.1.size) _ _)
     exact yx H
 ·have b:Hid (gK s=eI/\dO s=unC s):=yz ⟨by unfold gK;rw[if_neg A],by unfold dO;rw[if_neg A]⟩;generalize unC s=uc at *;have q0:=dT (yx P);have r0:=dR (yx u);have X:=ik (yx u);go_wp2_with fail;clear q0 r0 X;refine⟨_,lN _ _ w.1.size eI (σ ν 0 0) uc rfl (gA (yx u) rfl _ _ _ _ _ _ _ _ _ _ _ _),?_,?_⟩
  ·rw[(yx b).1,(yx b).2];exact ie _ _ _
  ·iterate 12 (refine bw ?_ (ύ w.1.size) _ _)
   exact yx G
end
section
variable {a b t:ByteArray} {x:Int}
theorem EN(h:t.size<=7996):unC (bh t)=0/\unT (bh t)=t:=by
 have b:=AE h;have d:(bh t).size=t.size+4:=by rw[b,ByteArray.size_append,jV]
 have c:(bh t).extract 0 ((bh t).size-4)=t:=by
  rw[d,show t.size+4-4=t.size by omega,b];exact ByteArray.extract_append_eq_left rfl
 have a:unC (bh t)=0:=by
  unfold unC;rw[if_neg (by omega),if_neg (by omega),c,if_pos rfl]
 refine⟨a,?_⟩;unfold unT;rw[if_pos a,c]
theorem qR{n:Int}(h:okI n)(c:t=a ++ aL n ++ b):aT t a.size=ς (n,(a ++ aL n).size):=by
 unfold aT;rw[yX a b n h.1 h.2 t (by rw[c];simp)];simp[DA]
theorem asB(u v w:ByteArray):u ++ v ++ w=u ++ (v ++ w):=ByteArray.append_assoc
theorem LI(x y z u:Int):ba [x,y,z,u] 4=aL x ++ aL y ++ aL z ++ aL u:=by
 have:=Cz x y z u ⟨#[]⟩;have a:(⟨#[]⟩:ByteArray) ++ aL x=aL x:=ByteArray.empty_append;have b:(⟨#[]⟩:ByteArray) ++ ba [x,y,z,u] 4=ba [x,y,z,u] 4:=ByteArray.empty_append;rw[a,b]at this;exact this.symm
theorem Kk{y z u:Int}(h:okI x)(i:okI y)(j:okI z)(k:okI u)(c:t=a ++ ba [x,y,z,u] 4 ++ b):eq t a.size=ς ((x,y,z,u),(a ++ ba [x,y,z,u] 4).size):=by
 rw[LI]at c ⊢;have d:=qR (t:=t) (a:=a) (b:=aL y ++ aL z ++ aL u ++ b) h (by rw[c];simp only[asB]);have e:=qR (t:=t) (a:=a ++ aL x) (b:=aL z ++ aL u ++ b) i (by rw[c];simp only[asB]);have f:=qR (t:=t) (a:=a ++ aL x ++ aL y) (b:=aL u ++ b) j (by rw[c];simp only[asB]);have g:=qR (t:=t) (a:=a ++ aL x ++ aL y ++ aL z) (b:=b) k (by rw[c];simp only[asB]);unfold eq;rw[d];dsimp only;rw[e];dsimp only;rw[f];dsimp only;rw[g];simp only[asB]
theorem Nf{x:D3}(g:okI x.1)(h:okI x.2.1)(i:okI x.2.2)(c:t=a ++ ba [x.1,x.2.1,x.2.2] 3 ++ b):jE t a.size=ς (x,(a ++ ba [x.1,x.2.1,x.2.2] 3).size):=by
 rw[<-JJ]at c ⊢;have d:=qR (t:=t) (a:=a) (b:=aL x.2.1 ++ aL x.2.2 ++ b) g (by rw[c];simp only[asB]);have e:=qR (t:=t) (a:=a ++ aL x.1) (b:=aL x.2.2 ++ b) h (by rw[c];simp only[asB]);have f:=qR (t:=t) (a:=a ++ aL x.1 ++ aL x.2.1) (b:=b) i (by rw[c];simp only[asB]);unfold jE;rw[d];dsimp only;rw[e];dsimp only;rw[f];simp only[asB]
theorem EX{L:List D3}{k:Nat}(a:k<L.length):L.take (k+1)=L.take k ++ [vA L k]:=by
 unfold vA;rw[List.take_add_one,List.getD_eq_getElem?_getD,List.getElem?_eq_getElem a];rfl
def DD(L:List D3)(k:Nat):Nat->ByteArray
 | 0=>⟨#[]⟩
 | j+1=>DD L k j ++ ba [(vA L (k+j)).1,(vA L (k+j)).2.1,(vA L (k+j)).2.2] 3
theorem zp(L:List D3)(k:Nat):∀j,gG L (k+j)=gG L k ++ DD L k j
 | 0=>by unfold DD;exact ByteArray.append_empty.symm
 | j+1=>by
  show gG L (k+j) ++ ba [(vA L (k+j)).1,(vA L (k+j)).2.1,(vA L (k+j)).2.2] 3=gG L k ++ (DD L k j ++ ba [(vA L (k+j)).1,(vA L (k+j)).2.1,(vA L (k+j)).2.2] 3);rw[zp L k j];exact asB _ _ _
theorem FT{p:ByteArray}{L:List D3}(a:∀k,k<L.length->okI (vA L k).1/\okI (vA L k).2.1/\okI (vA L k).2.2)(b:t=p ++ gG L L.length):∀k,k<=L.length->dy t p.size k=ς (L.take k,(p ++ gG L k).size)
 | 0,_=>by
  unfold dy gG;rw[show p ++ (⟨#[]⟩:ByteArray)=p from ByteArray.append_empty];rfl
 | k+1,hk=>by
  have h:=FT a b k (by omega);obtain⟨j,g⟩:∃j,L.length=k+1+j:=⟨L.length-(k+1),by omega⟩
  have e:t=(p ++ gG L k) ++ ba [(vA L k).1,(vA L k).2.1,(vA L k).2.2] 3 ++ DD L (k+1) j:=by
   rw[b,g,zp];show p ++ ((gG L k ++ _) ++ _)=_;simp only[asB]
  obtain⟨c,d,f⟩:=a k (by omega);have i:=Nf c d f e;unfold dy;rw[h];dsimp only;rw[i];dsimp only;rw[EX (show k<L.length by omega),asB];rfl
theorem Nu{px:ByteArray}(c:px.size<=8000)(b:t=a ++ eu px):dM t a.size=ς (px,t.size):=by
 have e:eu px=aL (px.size:Int) ++ px:=by unfold eu;rw[if_neg (by omega)]
 rw[e]at b;unfold dM;rw[AQ px a t c (by rw[b];simp)];rw[b,ByteArray.size_append,ByteArray.size_append];simp only[Nat.add_assoc]
theorem KW{c:Cm}(h:tz c=θ):c.A=0/\c.B=0/\c.C=0/\c.D=0:=by
 unfold tz eqT at h;simpa using h
theorem Ex{S:List D3}(h:noS S=θ):S=[]:=by
 unfold noS at h;exact List.length_eq_zero_iff.1 (by simpa using h)
theorem uF{c:Cm}(h:iF c=θ):c.wd=0/\c.ht=0/\c.px=⟨#[]⟩/\c.lv=0/\c.fo=0:=by
 unfold iF at h;simp only[ϐ]at h;exact tU h.1.1 h.1.2 h.2
theorem Gh{b a:Int}(h:bG b a x=θ):b<=x/\x<=a:=by
 unfold bG at h;simpa using h
theorem CK{c:Cm}(h:bA c=θ):aV (aL c.kind ++ eP c)=ς (c,(aL c.kind ++ eP c).size):=by
 have r:=qO h;have j:okI c.kind:=by unfold okI;omega
 obtain⟨t,d⟩:∃t,aL c.kind ++ eP c=t:=⟨_,rfl⟩
 have g:aT t 0=ς (c.kind,(aL c.kind).size):=by
  have:=qR (t:=t) (a:=⟨#[]⟩) (b:=eP c) j (by rw[<-d];rw[show (⟨#[]⟩:ByteArray) ++ aL c.kind=aL c.kind from ByteArray.empty_append]);rw[show (⟨#[]⟩:ByteArray) ++ aL c.kind=aL c.kind from ByteArray.empty_append]at this;exact this
 obtain⟨w,A,B,C,D,S,m,e,l,s,o⟩:=c;dsimp only at r g d j;rcases r with rfl | rfl | rfl | rfl
 ·rw[Bq rfl]at h;simp only[ϐ]at h;obtain⟨rfl,rfl,rfl,rfl⟩:=KW h.1.1;obtain rfl:=Ex h.1.2;obtain⟨rfl,rfl,rfl,rfl,rfl⟩:=uF h.2;have f:eP ⟨1,0,0,0,0,[],0,0,⟨#[]⟩,0,0⟩=⟨#[]⟩:=rfl;rw[f,show aL 1 ++ (⟨#[]⟩:ByteArray)=aL 1 from ByteArray.append_empty]at d;rw[f,show aL 1 ++ (⟨#[]⟩:ByteArray)=aL 1 from ByteArray.append_empty];subst d;unfold aV;rw[g];dsimp only;rw[if_neg (by decide),if_neg (by decide),if_neg (by decide)]
 ·rw[uM rfl]at h;simp only[ϐ]at h;obtain rfl:=Ex h.1.2;obtain⟨rfl,rfl,rfl,rfl,rfl⟩:=uF h.2;obtain⟨G,H,I,K⟩:=vX h.1.1;have f:eP ⟨2,A,B,C,D,[],0,0,⟨#[]⟩,0,0⟩=ba [A,B,C,D] 4:=rfl;rw[f]at d ⊢;have i:=Kk (t:=t) (a:=aL 2) (b:=⟨#[]⟩) (x:=A) (y:=B) (z:=C) (u:=D) (by unfold okI;omega) (by unfold okI;omega) (by unfold okI;omega) (by unfold okI;omega) (by rw[<-d];exact ByteArray.append_empty.symm);unfold aV;rw[d,g];dsimp only;rw[if_pos rfl,i];rw[<-d]
 ·rw[oR rfl]at h;simp only[ϐ]at h;obtain⟨rfl,rfl,rfl,rfl⟩:=KW h.1.1;obtain⟨rfl,rfl,rfl,rfl,rfl⟩:=uF h.2;have q:=h.1.2;have Q:S.length<=6:=by unfold aQ at q;simp only[ϐ,decide_eq_true_eq]at q;exact q.1
  have f:eP ⟨3,0,0,0,0,S,0,0,⟨#[]⟩,0,0⟩=dV S S.length:=rfl;rw[f,kR]at d;rw[f,kR];have i:=qR (t:=t) (a:=aL 3) (b:=gG S S.length) (n:=(S.length:Int)) (by unfold okI;omega) (by rw[<-d,asB])
  have v:=FT (t:=t) (p:=aL 3 ++ aL (S.length:Int)) (L:=S) (fun k r=>by
   have:=sn q r;unfold okI
   omega) (by rw[<-d,asB]) S.length (ύ _)
  unfold aV;rw[d,g];dsimp only;rw[if_neg (by decide),if_pos rfl,i];dsimp only;rw[if_pos (by omega),Int.toNat_natCast,v];dsimp only;rw[List.take_length,<-d,asB]
 ·rw[oS rfl]at h;simp only[ϐ]at h;obtain⟨rfl,rfl,rfl,rfl⟩:=KW h.1.1.1.1;obtain rfl:=Ex h.1.1.1.2;obtain⟨M,E,N,F,O⟩:=fF.1 h.1.1.2;have T:=Gh h.1.2;have R:=Gh h.2;have P:m*e<=16*12:=Int.mul_le_mul E F (by omega) (by omega);have f:eP ⟨4,0,0,0,0,[],m,e,l,s,o⟩=ba [m,e,s,o] 4 ++ eu l:=rfl;rw[f]at d ⊢;have i:=Kk (t:=t) (a:=aL 4) (b:=eu l) (x:=m) (y:=e) (z:=s) (u:=o) (by unfold okI;omega) (by unfold okI;omega) (by unfold okI;omega) (by unfold okI;omega) (by rw[<-d,asB]);have v:=Nu (t:=t) (a:=aL 4 ++ ba [m,e,s,o] 4) (px:=l) (by omega) (by rw[<-d,asB]);unfold aV;rw[d,g];dsimp only;rw[if_neg (by decide),if_neg (by decide),if_pos rfl,i];dsimp only;rw[v]
theorem IL{c:Cm}(h:(eJ c).size≠0):gK (eJ c)=c/\dO (eJ c)=0:=by
 have a:bA c=θ:=by
  cases g:bA c
  ·exact absurd (by unfold eJ;rw[g];rfl) h
  ·rfl
 have e:eJ c=bh (aL c.kind ++ eP c):=by unfold eJ;rw[if_pos a]
 have b:(aL c.kind ++ eP c).size<=7996:=by
  refine Nat.le_of_not_lt (fun b=>h ?_);rw[e];unfold bh;rw[if_pos b];rfl
 obtain⟨d,f⟩:=EN b;have r:=CK a;constructor
 ·unfold gK;rw[e,if_pos d,f,r];dsimp only;rw[if_pos ⟨rfl,a⟩]
 ·unfold dO;rw[e,if_pos d,f,r];dsimp only;rw[if_pos ⟨rfl,a⟩]
theorem GA{u:ByteArray}(h:dO u=0):bA (gK u)=θ/\eJ (gK u)=u:=by
 unfold dO at h;unfold gK;split at h
 ·rename_i a
  rw[if_pos a];split at h
  ·omega
  ·rename_i c q e
   split at h
   ·rename_i b
    try rw[e]
    try dsimp only
    rw[if_pos b];exact⟨b.2,(Fv a e).2 b⟩
   ·omega
 ·rename_i a;exact absurd h a
end
section
theorem NV(t:ByteArray)(q:Nat):(eq t q=ν/\(gV t (aP t q φ).2.1 (aP t q φ).2.2).2.2=θ) \/
  (eq t q=ς (((aP t q φ).1,(gV t (aP t q φ).2.1 (aP t q φ).2.2).1.1,(gV t (aP t q φ).2.1 (aP t q φ).2.2).1.2.1,(gV t (aP t q φ).2.1 (aP t q φ).2.2).1.2.2),(gV t (aP t q φ).2.1 (aP t q φ).2.2).2.1)/\(gV t (aP t q φ).2.1 (aP t q φ).2.2).2.2=φ):=by
 unfold eq;cases l:aT t q with
 | none=>
  have i:aP t q φ=(0,q,θ):=by unfold aP;rw[l];rfl
  exact .inl ⟨rfl,by rw[i];rfl⟩
 | some a=>
  obtain⟨a,e⟩:=a;have i:aP t q φ=(a,e,φ):=by unfold aP;rw[l];rfl
  rw[i];simp only[gV];cases m:aT t e with
  | none=>
   have j:aP t e φ=(0,e,θ):=by unfold aP;rw[m];rfl
   exact .inl ⟨rfl,by rw[j];rfl⟩
  | some b=>
   obtain⟨b,f⟩:=b;have j:aP t e φ=(b,f,φ):=by unfold aP;rw[m];rfl
   rw[j];simp only;cases n:aT t f with
   | none=>
    have k:aP t f φ=(0,f,θ):=by unfold aP;rw[n];rfl
    exact .inl ⟨rfl,by rw[k];rfl⟩
   | some c=>
    obtain⟨c,g⟩:=c;have k:aP t f φ=(c,g,φ):=by unfold aP;rw[n];rfl
    rw[k];simp only;cases o:aT t g with
    | none=>
     have h:aP t g φ=(0,g,θ):=by unfold aP;rw[o];rfl
     exact .inl ⟨rfl,by rw[h]⟩
    | some d=>
     obtain⟨d,p⟩:=d;have h:aP t g φ=(d,p,φ):=by unfold aP;rw[o];rfl
     exact .inr ⟨by rw[h],by rw[h]⟩
variable {t:ByteArray} {b q:Nat} {w w':ω}
theorem Me{bad:Bool}(a:t.size<=8000)(b:q<=8000):(gV t q bad).2.1<=8000:=
 kS a (kS a (kS a b))
theorem JB{bad:Bool}{most:Int}(b:t.size<=8000)(a:q<=8000):(qC t q bad most).2.1<=8000:=by
 unfold qC;split
 ·exact kS b a
 ·exact kS b a
theorem Fq{wr c:ω}{b:Nat}(h:δ w.1.size w wr)(a:wr.grownBy c (ς b))(f:w.1.size<=b):δ w.1.size w c:=
 h.trans ⟨a.os,a.tape,a.output,a.size,fun k d=>a.block k (Ϗ d h.size) (fun e=>by have:=ό e;omega)⟩
theorem rr.grown{v:μ}{c:Int}{d:Option Nat}(h:rr w b v c)(e:w.grownBy w' d)(a:ς b≠d):rr w' b v c:=⟨e.cell h.1 a,e.cell h.2 a⟩
theorem xU.grown{a:Option Nat}(h:xU w b)(d:b<w.1.size)(f:w.grownBy w' a)(c:ς b≠a):xU w' b:=by
 have e:=f.block b d c;exact⟨by rw[World.frozen?_of_block (w:=w) e];exact h.1,by rw[World.frozen?_of_block (w:=w) e];exact h.2⟩
theorem Kj(w:ω)(t:ByteArray)(a:TypeId):fQ (w.alloc (ξ #[τ t,J Z 0,.bool φ] a)) w.1.size t 0 φ:=by
 refine⟨?_,?_,?_,?_,?_⟩<;>simp
end
theorem CV{s:ByteArray}{p:Nat}:∀(k i u:Nat) (c:Int),bU s p k i u=.error c->c=3\/c=4
 | 0,i,u,c,h=>by simp[bU]at h;omega
 | k+1,i,u,c,h=>by
  rw[bU]at h;split at h
  ·simp at h;omega
  ·split at h
   ·simp at h;omega
   ·split at h
    ·split at h
     ·simp at h;omega
     ·simp at h
    ·exact CV k (i+1) _ c h
theorem EZ(s:ByteArray)(p:Int)(e:s.size<=8000):∃(n q c:Int),mo s p=κ #[J Z n,J Z q,J Z c] /\
  ((c≠0/\bR s p=.error c)\/(c=0/\-9223372036854775808<=n/\n<=9223372036854775807/\0<=q/\q<=s.size /\
   bR s p=if n<0\/8000<n then .error 3 else if (s.size:Int)-q<n then .error 4 else .ok (s.extract q.toNat (q.toNat+n.toNat),q.toNat+n.toNat))):=by
 rw[mo,if_neg (by omega)];cases a:dj s p with
 | error c=>
  refine⟨0,0,c,rfl,.inl ⟨?_,by unfold bR;rw[a]⟩⟩;unfold dj at a;split at a
  ·simp at a;omega
  ·have:=CV 10 0 0 c a;omega
 | ok x=>
  have d:=pw a;have b:=zm x.1 d.2;exact⟨unf x.1,(x.2:Int),0,rfl,.inr ⟨rfl,b.1,b.2,by omega,by omega,by unfold bR;rw[a];simp⟩⟩
theorem qW(s:ByteArray)(p:Int)(w:ω)(O:s.size<=8000)(F:p<=9223372036854775807):
  χ prog 53 #[τ s,J Z p] w fun e B=>e=ρ (uu (bR s p))/\δ w.1.size w B:=by
 obtain⟨n,q,c,E,d⟩:=EZ s p O;have x:=yz (fun w=>(by have:=kB s p w (by omega) F;rw[E]at this;exact this:χ prog 100 #[τ s,J Z p] w fun e B=>e=ρ (κ #[J Z n,J Z q,J Z c])/\δ w.1.size w B));clear E;rcases d with ⟨D,d⟩ | ⟨rfl,H,t,K,L,d⟩
 ·have g:=yz d;have G:(c != 0)=θ:=by rw[bne_iff_ne];exact D
  clear d D;go_enter func53,ntmps53;go_wp2_with fail;refine(yx x _).mono ?_;rintro e C ⟨rfl,a⟩;obtain⟨h,i,j,y,z,A,l,k⟩:=wG a;clear a;go_wp2;exact ϊ (v:=κ #[τ ⟨#[]⟩,J Z 0,J Z c]) (by simp[results,results53,go_sem,h,i,j,l]) rfl ⟨by rw[yx g];rfl,kh (((k.setCell (by simp) _).setCell (by simp) _).setCell (by simp) _) (ύ _) _⟩
 ·by_cases o:n<0\/8000<n
  ·have g:=yz (show bR s p=.error 3 by rw[d,if_pos o]);have t:n<0\/(0<=n/\8000<n):=by omega
   clear d o;rcases t with r | r
   all_goals
    go_enter func53,ntmps53;go_wp2_with fail;refine(yx x _).mono ?_;rintro e C ⟨rfl,a⟩;obtain⟨h,i,j,y,z,A,l,k⟩:=wG a;clear a;go_wp2;exact ϊ (v:=κ #[τ ⟨#[]⟩,J Z 0,J Z 3]) (by simp[results,results53,go_sem,h,i,j,l]) rfl ⟨by rw[yx g];rfl,kh (((k.setCell (by simp) _).setCell (by simp) _).setCell (by simp) _) (ύ _) _⟩
  ·have r:0<=n:=by omega
   have I:n<=8000:=by omega
   by_cases f:(s.size:Int)-q<n
   ·have g:=yz (show bR s p=.error 4 by rw[d,if_neg o,if_pos f]);have u:(s.size:Int)-n<q:=by omega
    clear d o f;go_enter func53,ntmps53;go_wp2_with fail;refine(yx x _).mono ?_;rintro e C ⟨rfl,a⟩;obtain⟨h,i,j,y,z,A,l,k⟩:=wG a;clear a;go_wp2;exact ϊ (v:=κ #[τ ⟨#[]⟩,J Z 0,J Z 4]) (by simp[results,results53,go_sem,h,i,j,l]) rfl ⟨by rw[yx g];rfl,kh (((k.setCell (by simp) _).setCell (by simp) _).setCell (by simp) _) (ύ _) _⟩
   ·obtain⟨m,rfl⟩:∃m:Nat,n=(m:Int):=⟨n.toNat,by omega⟩
    obtain⟨b,rfl⟩:∃b:Nat,q=(b:Int):=⟨q.toNat,by omega⟩
    have g:=yz (show bR s p=.ok (s.extract b (b+m),b+m) by rw[d,if_neg o,if_neg f];simp);have u:(b:Int)<=(s.size:Int)-(m:Int):=by omega
    have N:b+m<=s.size:=by omega
    have M:(b:Int)<=(b:Int)+(m:Int)/\(b:Int)+(m:Int)<=(s.size:Int):=by omega
    clear d o f;go_enter func53,ntmps53;go_wp2_with fail;refine(yx x _).mono ?_;rintro e C ⟨rfl,a⟩;obtain⟨h,i,j,y,z,A,l,k⟩:=wG a;clear a;go_wp2;go_region
    go_wp2;exact ϊ (v:=κ #[τ (s.extract b (b+m)),J Z ((b:Int)+(m:Int)),J Z 0]) (by simp[results,results53,go_sem,h,i,j,l]) rfl ⟨by rw[yx g];simp[uu],(kh (((k.setCell (by simp) _).setCell (by simp) _).setCell (by simp) _) (ύ _) _).drew⟩
theorem mS(s:ByteArray)(p:Int)(w:ω)(k:s.size<=1048576)(d:p<=9223372036854775807):
  χ prog 53 #[τ s,J Z p] w fun e c=>e=ρ (fc s p)/\δ w.1.size w c:=by
 by_cases b:8000<s.size
 ·rw[fc,if_pos b];have f:=yz (fun w=>(by have:=kB s p w k d;rw[mo,if_pos b]at this;exact this:χ prog 100 #[τ s,J Z p] w fun e c=>e=ρ (κ #[J Z 0,J Z 0,J Z 2])/\δ w.1.size w c));go_enter func53,ntmps53;go_wp2_with fail;refine(yx f _).mono ?_;rintro e q ⟨rfl,a⟩;obtain⟨g,h,i,m,n,o,l,j⟩:=wG a;clear a;go_wp2;exact ϊ (v:=κ #[τ ⟨#[]⟩,J Z 0,J Z 2]) (by simp[results,results53,go_sem,g,h,i,l]) rfl ⟨rfl,kh (((j.setCell (by simp) _).setCell (by simp) _).setCell (by simp) _) (ύ _) _⟩
 ·rw[fc,if_neg b];exact qW s p w (by omega) d
section
def jB(t:ByteArray)(q:Nat)(bad:Bool):ByteArray×Nat×Bool:=if bad=θ then (⟨#[]⟩,q,θ) else match dM t q with | none=>(⟨#[]⟩,q,θ) | some (x,q')=>(x,q',φ)
theorem ss{s:ByteArray}{q:Nat}(f:s.size<=8000):∃(x:ByteArray) (y z:Int),fc s (q:Int)=κ #[τ x,J Z y,J Z z] /\
  ((dM s q=ν/\z≠0)\/∃a:Nat,dM s q=ς (x,a)/\y=(a:Int)/\z=0):=by
 unfold fc dM;rw[if_neg (by omega)];cases h:bR s (q:Int) with
 | error c=>
  refine⟨_,_,c,rfl,.inl ⟨rfl,?_⟩⟩;unfold bR at h;have e:dj s (q:Int)=bU s q 10 0 0:=by unfold dj;rw[if_neg (by omega)];rfl
  rw[e]at h;split at h
  ·rename_i d b
   have:=se 10 0 0 b;simp at h;omega
  ·split at h
   ·simp at h;omega
   ·split at h
    ·simp at h;omega
    ·cases h
 | ok x=>exact⟨_,_,0,rfl,.inr ⟨_,rfl,rfl,rfl⟩⟩
variable {b:Nat} {t:TypeId} {wn wy:ω}
theorem Nv(a:δ (wy.alloc (ξ #[τ ⟨#[]⟩,J Z 0,J Z 0] t)).1.size (wy.alloc (ξ #[τ ⟨#[]⟩,J Z 0,J Z 0] t)) wn):Blk wn wy.1.size [τ ⟨#[]⟩,J Z 0,J Z 0] t:=(aq wy [τ ⟨#[]⟩,J Z 0,J Z 0] t).kept a
theorem LZ(a:δ ((wy.alloc (ξ #[τ ⟨#[]⟩,J Z 0,J Z 0] t)).drew).1.size ((wy.alloc (ξ #[τ ⟨#[]⟩,J Z 0,J Z 0] t)).drew) wn):Blk wn wy.1.size [τ ⟨#[]⟩,J Z 0,J Z 0] t:=(aq wy [τ ⟨#[]⟩,J Z 0,J Z 0] t).drewn.kept a
theorem LY{a:ω}(h:Blk a b [τ ⟨#[]⟩,J Z 0,J Z 0] t)(c:δ a.1.size a wn):Blk wn b [τ ⟨#[]⟩,J Z 0,J Z 0] t:=h.kept c
theorem Ma{w:ω}(h:Blk w b [τ ⟨#[]⟩,J Z 0,J Z 0] t)(x y z:μ):Blk (((w.setCell ⟨b,0,ν⟩ x).setCell ⟨b,1,ν⟩ y).setCell ⟨b,2,ν⟩ z) b [x,y,z] t:=((h.set 0 x).set 1 y).set 2 z
theorem NW(w:ω)(x:ByteArray)(y z:Int)(t:TypeId):Blk (w.alloc (ξ #[τ x,J Z y,J Z z] t)) w.1.size [τ x,J Z y,J Z z] t:=aq w [τ x,J Z y,J Z z] t
theorem Fa(b:Nat)(t:ByteArray)(q:Nat)(c:Bool)(w:ω)(I:t.size<=8000)(Q:q<=8000)(v:fQ w b t q c):
  χ prog 65 #[π (ς ⟨b,0,ν⟩)] w fun e d=>e=ρ (τ (jB t q c).1)/\fQ d b t (jB t q c).2.1 (jB t q c).2.2/\w.grownBy d (ς b):=by
 have i:=yz v;clear v;obtain⟨x,y,z,A,k⟩:=ss (q:=q) I;have H:=yz k;have r:Hid (∀W:ω,χ prog 53 #[τ t,J Z (q:Int)] W fun e d=>e=ρ (κ #[τ x,J Z y,J Z z])/\δ W.1.size W d):=yz (fun W=>(mS t (q:Int) W (by omega) (by omega)).mono fun e d h=>⟨by rw[h.1,A],h.2⟩);clear A k;go_enter func65,ntmps65;go_wp2_with fail;go_cut [3] (fun s G=>∃n,s=π (ς ⟨n,0,ν⟩)/\Blk G n [τ x,J Z y,J Z z] 73/\δ w.1.size w G)
 case first=>
  go_region_held (fun d=>(d.cell? ⟨b,0,ν⟩=ς (τ t)/\d.cell? ⟨b,1,ν⟩=ς (J Z (q:Int)))/\δ w.1.size w d) (first | exact pe (yx i) (Below.refl _ _).drew | exact pe (yx i) (ze (by assumption) _) | exact pe (yx i) (by assumption) | exact pe (yx i) (mJ (by assumption) _) | exact pe (yx i) (Do (by assumption) (by first | exact ύ _ | exact Below.size (by assumption)) _ _ _)) ((go_at_call 53;refine(yx r _).mono ?_;rintro e M ⟨rfl,g⟩;have R:=Dk (w1:=w) g (by assumption);first | (have a:Blk M w.1.size [τ ⟨#[]⟩,J Z 0,J Z 0] 73:=LZ g;have C:=a.cell 0 _ rfl;have D:=a.cell 1 _ rfl;have E:=a.cell 2 _ rfl;have u:=a.free 0;have o:=a.free 1;have p:=a.free 2) | (have a:=Nv g;have C:=a.cell 0 _ rfl;have D:=a.cell 1 _ rfl;have E:=a.cell 2 _ rfl;have u:=a.free 0;have o:=a.free 1;have p:=a.free 2) | (have a:=LY (by assumption) g;have C:=a.cell 0 _ rfl;have D:=a.cell 1 _ rfl;have E:=a.cell 2 _ rfl;have u:=a.free 0;have o:=a.free 1;have p:=a.free 2) | skip))
  all_goals (go_wp2;go_meet;refine⟨_,rfl,?_,?_⟩)
  all_goals first | (with_reducible exact NW _ _ _ _ _) | (with_reducible exact mJ (by assumption) _) | (with_reducible exact Ma (by assumption) _ _ _) | (with_reducible exact sC (by assumption) (by first | exact ύ _ | exact Below.size (by assumption)) _ _ _) | trace_state
 case rest=>
  obtain⟨n,rfl,F,g⟩:=hcut;have l:=ap i g;have m:=yz (zT (b:=b) g);have S:=dT (F);obtain⟨N,O,P,o,p⟩:=yx l;clear g r F;cases c
  ·rcases yx H with ⟨j,k⟩ | ⟨B,j,rfl,rfl⟩
   ·have f:Hid (jB t q φ=(⟨#[]⟩,q,θ)):=yz (by unfold jB;rw[j];rfl);have K:(z==0)=φ:=by simp[k]
    have L:(z != 0)=θ:=by simp[k]
    clear j;go_wp2;go_ret;exact⟨by rw[yx f];rfl,by rw[yx f];exact(yx l).bad θ,fN (yx m) _ _⟩
   ·have f:Hid (jB t q φ=(x,B,φ)):=yz (by unfold jB;rw[j];rfl);clear j;go_wp2;go_ret;exact⟨by rw[yx f];rfl,by rw[yx f];exact(yx l).at B,fN (yx m) _ _⟩
  ·have f:Hid (jB t q θ=(⟨#[]⟩,q,θ)):=yz rfl;go_wp2;go_ret;exact⟨by rw[yx f];rfl,by rw[yx f];exact(yx l).bad θ,fN (yx m) _ _⟩
end
section
theorem mC(b:Nat)(t:ByteArray)(q:Nat)(a:Bool){x:Int}{c:Nat}{bad':Bool}(i:aP t q a=(x,c,bad'))(w:ω)(h:t.size<=8000)(g:q<=8000)(f:fQ w b t q a):
  χ prog 62 #[π (ς ⟨b,0,ν⟩)] w fun e d=>e=ρ (J Z x)/\fQ d b t c bad'/\w.grownBy d (ς b):=by
 have:=qF b t q a w h g f;rw[i]at this;exact this
variable {b b2 bad':Bool} {t:ByteArray} {x x1 x2 x3 x4:Int} {cb q q' q1 q2 q5 rb:Nat} {w wx:ω}
theorem mD{a:Bool}(d:aP t q a=(x,q',bad'))(c:t.size<=8000)(b:q<=8000):q'<=8000:=by
 have:=kS (bad:=a) c b;rw[d]at this;exact this
theorem lJ(a:aP t q φ=(x,q',bad')):(bad'=θ/\aT t q=ν/\x=0)\/(bad'=φ/\aT t q=ς (x,q')):=by
 unfold aP at a;rw[if_neg (by simp)]at a;split at a
 ·rename_i h
  simp at a;exact .inl ⟨by simp_all,h,by simp_all⟩
 ·rename_i n p h
  simp at a;obtain⟨rfl,rfl,rfl⟩:=a;exact .inr ⟨rfl,h⟩
theorem As(h:aP t q θ=(x,q',b)):b=θ:=by
 unfold aP at h;simp at h;exact h.2.2
theorem Cy{d e:Nat}{b c a:Bool}(f:aP t q φ=(x1,q2,b2))(g:aP t q2 b2=(x2,d,b))(i:aP t d b=(x3,e,c))(j:aP t e c=(x4,q5,a)):
  (a=θ/\eq t q=ν)\/(a=φ/\eq t q=ς ((x1,x2,x3,x4),q5)):=by
 have:=NV t q;unfold gV at this;simp only[f,g,i,j]at this;rcases this with h | h
 ·exact .inl ⟨h.2,h.1⟩
 ·exact .inr ⟨h.2,h.1⟩
theorem Iu{y z:Int}(h:gV t q φ=((x,y,z),q2,b2)):(b2=θ/\jE t q=ν)\/(b2=φ/\jE t q=ς ((x,y,z),q2)):=by
 unfold gV at h;generalize i:aP t q φ=l at h;obtain⟨r,k,f⟩:=l;dsimp only at h;generalize e:aP t k f=m at h;obtain⟨s,j,g⟩:=m;dsimp only at h;generalize d:aP t j g=n at h;obtain⟨u,p,o⟩:=n;simp at h;obtain⟨⟨rfl,rfl,rfl⟩,rfl,rfl⟩:=h;unfold jE;rcases lJ i with ⟨rfl,b,_⟩ | ⟨rfl,b⟩
 ·have:=As e;subst this;exact .inl ⟨As d,by rw[b]⟩
 ·rw[b];rcases lJ e with ⟨rfl,a,_⟩ | ⟨rfl,a⟩
  ·exact .inl ⟨As d,by simp only[a]⟩
  ·rcases lJ d with ⟨rfl,c,_⟩ | ⟨rfl,c⟩
   ·exact .inl ⟨rfl,by simp only[a,c]⟩
   ·exact .inr ⟨rfl,by simp only[a,c]⟩
theorem mid2(a:aT t 0=ς (2,q1))(h:(b=θ/\eq t q1=ν)\/(b=φ/\eq t q1=ς ((x1,x2,x3,x4),q5))):(b=θ->aV t=ν)/\(b=φ->aV t=ς (⟨2,x1,x2,x3,x4,[],0,0,⟨#[]⟩,0,0⟩,q5)):=by
 unfold aV;rw[a];rcases h with ⟨rfl,e⟩ | ⟨rfl,e⟩<;>simp[e]
theorem mid4{g:Nat}{d:Bool}{f:ByteArray}(i:aT t 0=ς (4,q1))(h:(b=θ/\eq t q1=ν)\/(b=φ/\eq t q1=ς ((x1,x2,x3,x4),q5)))(a:jB t q5 b=(f,g,d)):(d=θ->aV t=ν)/\(d=φ->aV t=ς (⟨4,0,0,0,0,[],x1,x2,f,x3,x4⟩,g)):=by
 unfold aV;rw[i];unfold jB at a;rcases h with ⟨rfl,e⟩ | ⟨rfl,e⟩
 ·simp at a;obtain⟨_,_,rfl⟩:=a;simp[e]
 ·rw[if_neg (by simp)]at a;cases c:dM t q5 with
  | none=>
   rw[c]at a;simp at a;obtain⟨_,_,rfl⟩:=a;simp[e,c]
  | some y=>
   obtain⟨j,k⟩:=y;rw[c]at a;simp at a;obtain⟨rfl,rfl,rfl⟩:=a;simp[e,c]
theorem mid0{a:Int}(b:aT t 0=ς (a,q1))(c:¬a=2)(d:¬a=3)(e:¬a=4):aV t=ς (⟨a,0,0,0,0,[],0,0,⟨#[]⟩,0,0⟩,q1):=by
 unfold aV;rw[b];simp[c,d,e]
theorem midN(a:aT t 0=ν):aV t=ν:=by
 unfold aV;rw[a]
theorem MJ(b:aT t 0=ς (3,q1)):∃(c q:Nat) (bad:Bool),qC t q1 φ 6=((c:Int),q,bad)/\c<=6/\(bad=θ->aV t=ν)/\(bad=φ->q<=t.size/\aV t=match dy t q c with | none=>ν | some (S,q3)=>ς (⟨3,0,0,0,0,S,0,0,⟨#[]⟩,0,0⟩,q3)):=by
 unfold qC aV;rw[b];cases h:aT t q1 with
 | none=>
  have e:aP t q1 φ=(0,q1,θ):=by unfold aP;rw[h];rfl
  rw[e];exact⟨0,q1,θ,rfl,by omega,fun _=>by simp[h],fun h=>by cases h⟩
 | some x=>
  obtain⟨n,p⟩:=x;have e:aP t q1 φ=(n,p,φ):=by unfold aP;rw[h];rfl
  rw[e];by_cases a:0<=n/\n<=6
  ·rw[if_pos a];refine⟨n.toNat,p,φ,by rw[Int.toNat_of_nonneg (by omega)],by omega,fun h=>?_,fun _=>⟨(bg h).2,?_⟩⟩
   ·cases h
   ·simp only[h];rw[if_neg (by decide),if_pos trivial,if_pos a]
    first | rfl | (cases dy t p n.toNat<;>rfl)
  ·rw[if_neg a];exact⟨0,p,θ,rfl,by omega,fun _=>by simp[h,a],fun h=>by cases h⟩
theorem LX(b:Nat)(t:ByteArray)(q:Nat)(a:Bool){x:ByteArray}{c:Nat}{bad':Bool}(i:jB t q a=(x,c,bad'))(w:ω)(h:t.size<=8000)(g:q<=8000)(f:fQ w b t q a):
  χ prog 65 #[π (ς ⟨b,0,ν⟩)] w fun e d=>e=ρ (τ x)/\fQ d b t c bad'/\w.grownBy d (ς b):=by
 have:=Fa b t q a w h g f;rw[i]at this;exact this
theorem cj{P:Program}{ops:Array Oper}{o:Oper}{a:Act}{K:Act->ω->Prop}{Q:Exit->Act->ω->Prop}{E:Prop}(C:o.guard=ν)(s x:Operand)(t:TypeId)
  (O:o.op=.call { callee:=.builtin .append,args:=#[s,x],argTypes:=#[t,t] })
  (base:Nat) (e:TypeId) (i:TypeInfo) (z:μ) (size d:Nat) (S:P.underlying t=ς (.slice e)) (M:P.info? e=ς i) (V:i.zero=ς z)
  (l:i.size=size) (B:i.bytes=d) (F:z.cells.size=size) (D:0<size)
  (v:μ) (n:Nat) (G:List μ) (R:a.eval s=v) (p:w.ownsRow base e size v n G)
  (y:η) (m c:Nat) (b:List μ) (U:a.eval x=σ (ς y) m c) (N:b.length=m*size) (k:∀j u,b[j]? = ς u->w.cell? (y.add j)=ς u) (H:∀u∈b,u.oneCell'=θ)
  (A:n+m<=maxLen) (f:(n+m)*d<=140737488355328) (g:base<=w.1.size)
  (h:∀r q,q.ownsRow base e size r (n+m) (G ++ b)->w.grownBy q v.ownBlock->K (a.put o.dst r) q):if Region.wanted o (yielded ops a.tmps)=θ then Oper.wp P o a w K Q else E:=by
 have T:Region.wanted o (yielded ops a.tmps)=θ:=by simp[Region.wanted,C]
 rw[if_pos T];exact wp_append_own w s x t O base e i z size d S M V l B F D v n G R p y m c b U N k H A f g fun r q I L _=>h r q I L
theorem nh{e:ω}{b:Nat}{d:List μ}{t:TypeId}{a:Option Nat}(h:Blk w b d t)(f:w.grownBy e a)(c:ς b≠a):Blk e b d t:=(f.block b h.lt c).trans h
theorem Nc(w:ω)(o:Obj)(t:ByteArray)(a:TypeId):fQ ((w.alloc o).alloc (ξ #[τ t,J Z 0,.bool φ] a)) (w.1.size+1) t 0 φ:=by
 have h:(w.alloc o).1.size=w.1.size+1:=by simp
 rw[<-h];exact Kj _ t a
structure oI (w wx:ω) (rb cb:Nat) (t:ByteArray) (q:Nat) (bad:Bool) (L:List μ):Prop where
 rd:fQ wx rb t q bad
 cm:Blk wx cb L 29
 out:Blk wx w.1.size [J Z 0,J Z 0,J Z 0,J Z 0,J Z 0,σ ν 0 0,J Z 0,J Z 0,τ ⟨#[]⟩,J Z 0,J Z 0,J Z 0] 34
 bel:δ w.1.size w wx
 hr:w.1.size<rb
 hc:w.1.size<cb
 ne:cb≠rb
theorem oI.num{c:ω}{a:Bool}{L:List μ}(h:oI w wx rb cb t q a L)(d:fQ c rb t q' bad')(b:wx.grownBy c (ς rb)):oI w c rb cb t q' bad' L:=
 ⟨d,h.cm.grownK b h.ne,h.out.grownK b (by have:=h.hr;omega),Fq h.bel b (by have:=h.hr;omega),h.hr,h.hc,h.ne⟩
theorem oI.set{bad:Bool}{L:List μ}(h:oI w wx rb cb t q bad L)(i:Nat)(v:μ):oI w (wx.setCell ⟨cb,i,ν⟩ v) rb cb t q bad (L.set i v):=
 ⟨h.rd.set h.ne,h.cm.set i v,h.out.other _ _ (by have:=h.hc;show w.1.size≠cb;omega),h.bel.setCell (by have:=h.hc;show w.1.size<=cb;omega) _,h.hr,h.hc,h.ne⟩
theorem uo(T:Array μ)(X:ω)(b:Nat)(c:Cm)(v:μ)(k:Int)(e:T.getD 2 undef=π (ς ⟨b,0,ν⟩))(h:Blk X b [J Z c.kind,J Z c.A,J Z c.B,J Z c.C,J Z c.D,v,J Z c.wd,J Z c.ht,τ c.px,J Z c.lv,J Z c.fo,J Z k] 34):(results f16 T).run prog X=.ok (κ #[J Z c.kind,J Z c.A,J Z c.B,J Z c.C,J Z c.D,v,J Z c.wd,J Z c.ht,τ c.px,J Z c.lv,J Z c.fo,J Z k]) X:=by
 obtain⟨f,g,i,j,l,m,n,o,p,q,a,d⟩:=dR (h);simp only[Array.getD_eq_getD_getElem?]at e;simp[results,results16,go_sem,e,f,g,i,j,l,m,n,o,p,q,a,d]
def Nz(w wx:ω)(rb cb B:Nat)(t:ByteArray):Prop:=∃(c:Cm) (q:Nat) (bad:Bool) (a:Option η) (k:Nat),oI w wx rb cb t q bad [J Z c.kind,J Z c.A,J Z c.B,J Z c.C,J Z c.D,(σ a c.S.length k),J Z c.wd,J Z c.ht,τ c.px,J Z c.lv,J Z c.fo]/\(bad=θ->aV t=ν)/\(bad=φ->aV t=ς (c,q))/\wx.ownsRow B 93 3 (σ a c.S.length k) c.S.length (iq c.S)
theorem jF(s:ByteArray)(w:ω)(hs:s.size<=1048576):
  χ prog 16 #[τ s] w fun e w'=>Fo w' w.1.size (gK s) (dO s) e/\δ w.1.size w w':=by
 have B0:=yz (an w (ξ #[J Z 0,J Z 0,J Z 0,J Z 0,J Z 0,σ ν 0 0,J Z 0,J Z 0,τ ⟨#[]⟩,J Z 0,J Z 0,J Z 0] 34));have R0:=yz (aq w [J Z 0,J Z 0,J Z 0,J Z 0,J Z 0,σ ν 0 0,J Z 0,J Z 0,τ ⟨#[]⟩,J Z 0,J Z 0,J Z 0] 34);have HZ:Hid (unC s=0->(unT s).size<=8000/\(unT s).size+4=s.size):=yz wZ;have HM:=yz (fun (hu:unC s=0) (c:Cm) (q:Nat) h=>Fv hu (c:=c) (q:=q) h);have HK:Hid (dO s=if unC s=0 then (match aV (unT s) with | none=>3 | some (c,q)=>if q=(unT s).size/\bA c=θ then 0 else 3) else unC s):=yz rfl;have HC:Hid (gK s=if unC s=0 then (match aV (unT s) with | none=>eI | some (c,q)=>if q=(unT s).size/\bA c=θ then c else eI) else eI):=yz rfl;have cU:=yz (fun W=>nQ s W hs);generalize unC s=uc at *;generalize unT s=d at *;obtain⟨zc,aF⟩:∃z,gK s=z:=⟨_,rfl⟩
 obtain⟨zk,aG⟩:∃z,dO s=z:=⟨_,rfl⟩
 rw[aF]at HC;rw[aG]at HK;have ag:=yz aF;have ah:=yz aG;clear aF aG;go_enter func16,ntmps16;go_wp2_with fail;refine(yx cU _).mono ?_;rintro e w1 ⟨rfl,hx⟩;have Z1:=an w1 (ξ #[τ d,J Z 0,J Z uc] 73);have B1:=aB (aB B0 hx) Z1;have R1:=aW R0 hx Z1;have T1:=yz (aq w1 [τ d,J Z 0,J Z uc] 73);have aE:w.1.size<w1.1.size:=((yx R0).kept hx).lt;clear hx Z1 B0 R0 cU;have t0:=dT (yx T1);by_cases hu:uc=0
 ·subst hu;have B:=yx HZ rfl;rw[if_pos rfl]at HK HC;have au:=yz (yx HM rfl);clear HM HZ;obtain⟨kd,q1,b1,ae⟩:∃x q b,aP d 0 φ=(x,q,b):=⟨_,_,_,rfl⟩
  have af:=mD ae B.1 (by omega);have cN:=yz (mC (w1.1.size+1) d 0 φ ae _ B.1 (by omega) (Nc w1 (ξ #[τ d,J Z 0,J Z 0] 73) d 100));go_wp2_with fail;refine(yx cN).mono ?_;rintro e w2 ⟨rfl,n,l⟩;have Zr:=an (w1.alloc (ξ #[τ d,J Z 0,J Z 0] 73)) (ξ #[τ d,J Z 0,.bool φ] 100);have B2:=Fq (ak (yx B1) Zr) l (by omega);have R2:=((yx R1).kept Zr).grownK l (by omega);have Zc:=an w2 (ξ #[J Z kd,J Z 0,J Z 0,J Z 0,J Z 0,σ ν 0 0,J Z 0,J Z 0,τ ⟨#[]⟩,J Z 0,J Z 0] 29);have aO:w1.1.size+1<w2.1.size:=World.block_lt_of_cell? _ _ n.1;have o:Hid (oI w (w2.alloc (ξ #[J Z kd,J Z 0,J Z 0,J Z 0,J Z 0,σ ν 0 0,J Z 0,J Z 0,τ ⟨#[]⟩,J Z 0,J Z 0] 29)) (w1.1.size+1) w2.1.size d q1 b1 [J Z kd,J Z 0,J Z 0,J Z 0,J Z 0,σ ν 0 0,J Z 0,J Z 0,τ ⟨#[]⟩,J Z 0,J Z 0]):=yz ⟨n.kept Zc,aq w2 _ _,R2.kept Zc,ak B2 Zc,by omega,by omega,by omega⟩;have aX:(w2.alloc (ξ #[J Z kd,J Z 0,J Z 0,J Z 0,J Z 0,σ ν 0 0,J Z 0,J Z 0,τ ⟨#[]⟩,J Z 0,J Z 0] 29)).1.size=w2.1.size+1:=by simp
  clear n l cN Zr B2 R2 Zc B1 R1 T1 t0;go_upto_block 0 with fail;generalize w2.alloc (ξ #[J Z kd,J Z 0,J Z 0,J Z 0,J Z 0,σ ν 0 0,J Z 0,J Z 0,τ ⟨#[]⟩,J Z 0,J Z 0] 29)=W at *;obtain⟨E,aK⟩:∃z,w2.1.size=z:=⟨_,rfl⟩
  obtain⟨C,aN⟩:∃z,w1.1.size+1=z:=⟨_,rfl⟩
  rw[aK]at o aX aO ⊢;rw[aN]at o aO ⊢;clear aK aN;go_cut [6] (fun _ wx=>Nz w wx C E (E+1) d)
  case first=>
   clear HK HC au ag ah aE;cases b1
   ·rcases lJ ae with ⟨h,_⟩ | ⟨_,G⟩
    ·cases h
    clear ae;by_cases k2:kd=2
    ·subst k2;obtain⟨x1,R,b2,n1⟩:∃x q b,aP d q1 φ=(x,q,b):=⟨_,_,_,rfl⟩
     have aa:=mD n1 B.1 af;obtain⟨x2,T,b3,n2⟩:∃x q b,aP d R b2=(x,q,b):=⟨_,_,_,rfl⟩
     have ab:=mD n2 B.1 aa;obtain⟨x3,q4,b4,n3⟩:∃x q b,aP d T b3=(x,q,b):=⟨_,_,_,rfl⟩
     have am:=mD n3 B.1 ab;obtain⟨x4,q5,b5,n4⟩:∃x q b,aP d q4 b4=(x,q,b):=⟨_,_,_,rfl⟩
     have aL:=mD n4 B.1 am;have HF:=yz (Cy n1 n2 n3 n4);have r:=yz (mC C d q1 φ n1 _ B.1 af (yx o).rd);go_wp2_with fail;refine(yx r).mono ?_;rintro e V1 ⟨rfl,n,l⟩;have g:=(yx o).num n l;have P:=g.cm.cell 1 _ rfl;have Q:=g.cm.free 1;have I:=yz (g.set 1 (J Z x1));clear n l r g o n1;have r:=yz (mC C d R b2 n2 _ B.1 aa (yx I).rd);go_wp2_with fail;clear P Q;refine(yx r).mono ?_;rintro e V2 ⟨rfl,n,l⟩;have g:=(yx I).num n l;have P:=g.cm.cell 2 _ rfl;have Q:=g.cm.free 2;have U:=yz (g.set 2 (J Z x2));clear n l r g I n2;have r:=yz (mC C d T b3 n3 _ B.1 ab (yx U).rd);go_wp2_with fail;clear P Q;refine(yx r).mono ?_;rintro e V3 ⟨rfl,n,l⟩;have g:=(yx U).num n l;have P:=g.cm.cell 3 _ rfl;have Q:=g.cm.free 3;have V:=yz (g.set 3 (J Z x3));clear n l r g U n3;have r:=yz (mC C d q4 b4 n4 _ B.1 am (yx V).rd);go_wp2_with fail;clear P Q;refine(yx r).mono ?_;rintro e V4 ⟨rfl,n,l⟩;have g:=(yx V).num n l;have P:=g.cm.cell 4 _ rfl;have Q:=g.cm.free 4;have ai:=yz (g.set 4 (J Z x4));clear n l r g V n4;have HD:=yz (mid2 G (yx HF));clear G HF;go_wp2_with fail;clear P Q;go_meet
     exact⟨⟨2,x1,x2,x3,x4,[],0,0,⟨#[]⟩,0,0⟩,q5,b5,ν,0,yx ai,(yx HD).1,(yx HD).2,World.ownsRow_nil _ _ _ _⟩
    by_cases k3:kd=3
    ·subst k3;obtain⟨c,R,b2,hm,ba,L,Y⟩:=MJ G;have aa:R<=8000:=by have:=JB (t:=d) (q:=q1) (bad:=φ) (most:=6) B.1 af;rw[hm]at this;exact this
     have r:Hid (χ prog 63 #[π (ς ⟨C,0,ν⟩),J Z 6] W fun e w'=>e=ρ (J Z (c:Int))/\fQ w' C d R b2/\W.grownBy w' (ς C)):=yz (by have:=JC C d q1 φ 6 W B.1 af (yx o).rd;rw[hm]at this;exact this);have HI:Hid ((b2=θ->aV d=ν)/\(b2=φ->R<=d.size/\dy d R 0=ς ([],R))):=yz ⟨L,fun h=>⟨(Y h).1,rfl⟩⟩;have HA:Hid (b2=φ->aV d=match dy d R c with | none=>ν | some (S,T)=>ς (⟨3,0,0,0,0,S,0,0,⟨#[]⟩,0,0⟩,T)):=yz (fun h=>(Y h).2);obtain⟨i0,hi,a3,a4,a5⟩:=info_parts yD;have bc:400<=maxLen:=by decide +kernel
     clear G hm L Y;go_wp2_with fail;refine(yx r).mono ?_;rintro e V1 ⟨rfl,n,l⟩;have I:=yz ((yx o).num n l);have ay:E+1<=V1.1.size:=by have:=l.size;omega
     clear n l r o;go_wp2;go_loopw [6] (fun i wr=>∃(m j:Nat) (S:List D3) (q:Nat) (M:Bool) (a:Option η) (k:Nat),m+j=c/\i=J Z (m:Int)/\q<=8000/\E+1<=wr.1.size/\Hid (S.length=j)/\Hid ((M=θ->aV d=ν)/\(M=φ->b2=φ/\q<=d.size/\dy d R j=ς (S,q)))/\Hid (oI w wr C E d q M [J Z 3,J Z 0,J Z 0,J Z 0,J Z 0,(σ a S.length k),J Z 0,J Z 0,τ ⟨#[]⟩,J Z 0,J Z 0])/\Hid (wr.ownsRow (E+1) 93 3 (σ a S.length k) S.length (iq S))) (fun i _=>(ϋ i).toNat)
     case atStart=>exact⟨c,0,[],R,b2,ν,0,by omega,rfl,aa,ay,yz rfl,yz ⟨(yx HI).1,fun h=>⟨h,(yx HI).2 h⟩⟩,I,yz (World.ownsRow_nil _ _ _ _)⟩
     case round=>
      clear I HI ay;obtain⟨m,j,S,q,M,a,k,bd,rfl,hq,aR,HL,HI,H,OW⟩:=hrel;have a9:S.length<=6:=by have:=yx HL;omega
      obtain⟨d0,d1,d2,aC,aD⟩:=(yx H).rd;cases M
      ·obtain⟨aI,aM,ap⟩:=(yx HI).2 rfl;have ao:=yx HA aI;by_cases a0:0<m
       ·obtain⟨m',rfl⟩:∃m',m=m'+1:=⟨m-1,by omega⟩
        have aZ:(0:Int)<((m'+1:Nat):Int):=by omega
        obtain⟨⟨x,y,z⟩,T,b3,hv⟩:∃p q' b,gV d q φ=(p,q',b):=⟨_,_,_,rfl⟩
        have ab:T<=8000:=by have:=Me (t:=d) (q:=q) (bad:=φ) B.1 hq;rw[hv]at this;exact this
        have cV:=yz (fun (X:ω) (hX:fQ X C d q φ)=>Ia C d q φ X B.1 hq hX);rw[hv]at cV
        have HN:Hid ((b3=θ->aV d=ν)/\(b3=φ->b2=φ/\T<=d.size/\dy d R (j+1)=ς (S ++ [(x,y,z)],T))):=yz (by
         rcases Iu hv with ⟨rfl,e3⟩ | ⟨rfl,e3⟩
         ·have e:dy d R (j+1)=ν:=by unfold dy;rw[ap];simp only[e3]
          exact⟨fun _=>by rw[ao,nL e (show j+1<=c by omega)],fun h=>(by cases h)⟩
         ·have e:dy d R (j+1)=ς (S ++ [(x,y,z)],T):=by unfold dy;rw[ap];simp only[e3]
          exact⟨fun h=>(by cases h),fun _=>⟨aI,(wq e3).2,e⟩⟩)
        clear hv ap ao aM;go_upto_region 16 with fail;clear d0 d1 d2 aC aD;have h5:wr.drew.cell? ⟨E,5,ν⟩=ς (σ a S.length k):=(yx H).cm.drewn.cell 5 _ rfl;have aH:fQ wr.drew C d q φ:=(yx H).rd;have av:Hid (oI w wr.drew C E d q φ [J Z 3,J Z 0,J Z 0,J Z 0,J Z 0,(σ a S.length k),J Z 0,J Z 0,τ ⟨#[]⟩,J Z 0,J Z 0]):=yz ⟨(yx H).rd,(yx H).cm.drewn,(yx H).out.drewn,(yx H).bel.drew,(yx H).hr,(yx H).hc,(yx H).ne⟩;have az:Hid (wr.drew.ownsRow (E+1) 93 3 (σ a S.length k) S.length (iq S)):=yz (yx OW);have a8:E+1<=wr.drew.1.size:=aR;clear H OW;refine wp_region_held_drew (S:=(fun _=>True)) (by kernel_rfl) trivial (fun aY=>?_);refine tkO 0 rfl ?_;refine tkO 2 rfl ?_;refine rd2 1 3 rfl (fun K A=>?_) rfl fun K A=>?_
        focus
         have ar:=(yx av).cm.cell 5 _ rfl;go_simp;clear ar;refine A.out _ _ trivial (fun _=>?_);clear A K;refine rd1 3 rfl fun K A=>?_;go_simp;refine(yx cV _ aH).mono ?_;rintro e V3 ⟨rfl,n,l⟩;have f:=yz ((yx av).num n l);have aA:=yz (vZ (yx az) l (show C<E+1 by omega));have aQ:E+1<=V3.1.size:=by have:=l.size;omega
         clear n l;refine A.out _ _ trivial (fun _=>?_);clear A K;refine rd1 4 rfl fun K A=>?_;go_simp;have O:=an V3 (ξ #[J Z x,J Z y,J Z z] 93);have aj:=yz (show oI w (V3.alloc (ξ #[J Z x,J Z y,J Z z] 93)) C E d T b3 _ from ⟨(yx f).rd.kept O,(yx f).cm.kept O,(yx f).out.kept O,ak (yx f).bel O,(yx f).hr,(yx f).hc,(yx f).ne⟩);clear O
        rotate_left
        focus
         go_simp;refine(yx cV _ aH).mono ?_;rintro e V3 ⟨rfl,n,l⟩;have f:=yz ((yx av).num n l);have aA:=yz (vZ (yx az) l (show C<E+1 by omega));have aQ:E+1<=V3.1.size:=by have:=l.size;omega
         clear n l;refine A.out _ _ trivial (fun _=>?_);clear A K;refine rd2 1 4 rfl (fun K A=>?_) rfl fun K A=>?_
         focus
          have ar:=(yx f).cm.cell 5 _ rfl;go_simp;clear ar;refine A.out _ _ trivial (fun _=>?_);clear A K;refine rd1 4 rfl fun K A=>?_;go_simp;have O:=an V3 (ξ #[J Z x,J Z y,J Z z] 93);have aj:=yz (show oI w (V3.alloc (ξ #[J Z x,J Z y,J Z z] 93)) C E d T b3 _ from ⟨(yx f).rd.kept O,(yx f).cm.kept O,(yx f).out.kept O,ak (yx f).bel O,(yx f).hr,(yx f).hc,(yx f).ne⟩);clear O
         rotate_left
         focus
          go_simp;have O:=an V3 (ξ #[J Z x,J Z y,J Z z] 93);have aj:=yz (show oI w (V3.alloc (ξ #[J Z x,J Z y,J Z z] 93)) C E d T b3 _ from ⟨(yx f).rd.kept O,(yx f).cm.kept O,(yx f).out.kept O,ak (yx f).bel O,(yx f).hr,(yx f).hc,(yx f).ne⟩);clear O;refine A.out _ _ trivial (fun _=>?_);clear A K;refine rd1 1 rfl fun K A=>?_;have ar:=(yx aj).cm.cell 5 _ rfl;go_simp;clear ar
         rotate_left
        rotate_left 2
        all_goals
         refine A.out _ _ trivial (fun _=>?_);clear A K;refine rd1 5 rfl fun K A=>?_;have F:=(yx aA).alloc (ξ #[J Z x,J Z y,J Z z] 93);refine cj rfl _ _ 25 rfl (E+1) 93 i0 (κ #[J Z 0,J Z 0,J Z 0]) 3 24 underlying25 hi a3 a4 a5 rfl (by decide) _ _ _ rfl F ⟨V3.1.size,0,ν⟩ 1 1 [J Z x,J Z y,J Z z] rfl rfl (tV V3 x y z 93) (by intro u hu;simp at hu;rcases hu with rfl | rfl | rfl<;>rfl) (by omega) (by omega) (by simp;omega) ?_;intro v7 V7 N v;have nb:∀k',k'<E+1->ς k'≠Value.ownBlock (σ a S.length k):=fun k' bb e=>by have:=(F.lt k' e.symm).1;omega
         have D:=(yx aj)
         have al:oI w V7 C E d T b3 _:=⟨D.rd.grown v (nb C (by omega)),nh D.cm v (nb E (by omega)),nh D.out v (nb _ (by have:=D.hc;omega)),ol D.bel (eW F (by have:=D.hc;omega)) v (by have:=D.bel.size;omega),D.hr,D.hc,D.ne⟩
         obtain⟨a7,c7,a2⟩:=dZ N;subst a2;have c5:=al.cm.cell 5 _ rfl;have f5:=al.cm.free 5;have aU:=yz (al.set 5 (σ a7 (S.length+1) c7));have aS:=yz (gC N (fun z B=>by have:=(N.lt z B).1;omega) (b:=E) 5 (σ a7 (S.length+1) c7));have a1:E+1<=V7.1.size:=al.cm.lt;clear F D al nb N v aj f aA av az;refine A.out _ _ trivial (fun _=>?_);clear A K;refine rd1 6 rfl fun K A=>?_;go_simp;refine A.out _ _ trivial (fun _=>?_);clear A K;refine rd1 7 rfl fun K A=>?_;go_simp;refine A.out _ _ trivial (fun _=>?_);clear A K;refine rdn ?_;clear c5 f5;go_wp2;go_roundw
         case rel=>exact⟨m',j+1,S ++ [(x,y,z)],T,b3,a7,c7,by omega,by go_num,ab,by simpa using a1,yz (by simp[yx HL]),HN,yz (by simpa using yx aU),yz (by rw[mf];simpa[tm] using yx aS)⟩
         case measure=>simp[ϋ]
       ·obtain rfl:m=0:=by omega
        obtain rfl:j=c:=by omega
        rw[ap]at ao;have HR:=yz ao;clear ao ap aM;go_wp2;go_meet
        exact⟨⟨3,0,0,0,0,S,0,0,⟨#[]⟩,0,0⟩,q,φ,a,k,yx H,fun h=>(by cases h),fun _=>yx HR,yx OW⟩
      ·have HR:=yz ((yx HI).1 rfl);by_cases a0:0<m
       ·have aZ:(0:Int)<(m:Int):=by omega
        go_wp2;go_meet
        exact⟨⟨3,0,0,0,0,S,0,0,⟨#[]⟩,0,0⟩,q,θ,a,k,yx H,fun _=>yx HR,fun h=>(by cases h),yx OW⟩
       ·obtain rfl:m=0:=by omega
        go_wp2;go_meet
        exact⟨⟨3,0,0,0,0,S,0,0,⟨#[]⟩,0,0⟩,q,θ,a,k,yx H,fun _=>yx HR,fun h=>(by cases h),yx OW⟩
    by_cases k4:kd=4
    ·subst k4;obtain⟨x1,R,b2,n1⟩:∃x q b,aP d q1 φ=(x,q,b):=⟨_,_,_,rfl⟩
     have aa:=mD n1 B.1 af;obtain⟨x2,T,b3,n2⟩:∃x q b,aP d R b2=(x,q,b):=⟨_,_,_,rfl⟩
     have ab:=mD n2 B.1 aa;obtain⟨x3,q4,b4,n3⟩:∃x q b,aP d T b3=(x,q,b):=⟨_,_,_,rfl⟩
     have am:=mD n3 B.1 ab;obtain⟨x4,q5,b5,n4⟩:∃x q b,aP d q4 b4=(x,q,b):=⟨_,_,_,rfl⟩
     have aL:=mD n4 B.1 am;have HF:=yz (Cy n1 n2 n3 n4);have r:=yz (mC C d q1 φ n1 _ B.1 af (yx o).rd);go_wp2_with fail;refine(yx r).mono ?_;rintro e V1 ⟨rfl,n,l⟩;have g:=(yx o).num n l;have P:=g.cm.cell 6 _ rfl;have Q:=g.cm.free 6;have I:=yz (g.set 6 (J Z x1));clear n l r g o n1;have r:=yz (mC C d R b2 n2 _ B.1 aa (yx I).rd);go_wp2_with fail;clear P Q;refine(yx r).mono ?_;rintro e V2 ⟨rfl,n,l⟩;have g:=(yx I).num n l;have P:=g.cm.cell 7 _ rfl;have Q:=g.cm.free 7;have U:=yz (g.set 7 (J Z x2));clear n l r g I n2;have r:=yz (mC C d T b3 n3 _ B.1 ab (yx U).rd);go_wp2_with fail;clear P Q;refine(yx r).mono ?_;rintro e V3 ⟨rfl,n,l⟩;have g:=(yx U).num n l;have P:=g.cm.cell 9 _ rfl;have Q:=g.cm.free 9;have V:=yz (g.set 9 (J Z x3));clear n l r g U n3;have r:=yz (mC C d q4 b4 n4 _ B.1 am (yx V).rd);go_wp2_with fail;clear P Q;refine(yx r).mono ?_;rintro e V4 ⟨rfl,n,l⟩;have g:=(yx V).num n l;have P:=g.cm.cell 10 _ rfl;have Q:=g.cm.free 10;have ai:=yz (g.set 10 (J Z x4));clear n l r g V n4;obtain⟨px,q6,b6,n5⟩:∃x q b,jB d q5 b5=(x,q,b):=⟨_,_,_,rfl⟩
     have HD:=yz (mid4 G (yx HF) n5);have r:=yz (LX C d q5 b5 n5 _ B.1 aL (yx ai).rd);clear G HF n5;go_wp2_with fail;clear P Q;refine(yx r).mono ?_;rintro e V5 ⟨rfl,n,l⟩;have g:=(yx ai).num n l;have P:=g.cm.cell 8 _ rfl;have Q:=g.cm.free 8;have aT:=yz (g.set 8 (τ px));clear n l r g ai;go_wp2_with fail;clear P Q;go_meet
     exact⟨⟨4,0,0,0,0,[],x1,x2,px,x3,x4⟩,q6,b6,ν,0,yx aT,(yx HD).1,(yx HD).2,World.ownsRow_nil _ _ _ _⟩
    have HD:=yz (mid0 G k2 k3 k4);have e2:(kd==2)=φ:=by simp[k2]
    have e3:(kd==3)=φ:=by simp[k3]
    have e4:(kd==4)=φ:=by simp[k4]
    clear G;go_wp2;go_meet
    exact⟨⟨kd,0,0,0,0,[],0,0,⟨#[]⟩,0,0⟩,q1,φ,ν,0,yx o,fun h=>(by cases h),fun _=>yx HD,World.ownsRow_nil _ _ _ _⟩
   ·rcases lJ ae with ⟨_,G,rfl⟩ | ⟨h,_⟩
    rotate_left
    ·cases h
    have HD:=yz (midN G);clear G ae;go_wp2;go_meet
    exact⟨⟨0,0,0,0,0,[],0,0,⟨#[]⟩,0,0⟩,q1,θ,ν,0,yx o,fun _=>yx HD,fun h=>(by cases h),World.ownsRow_nil _ _ _ _⟩
  case rest=>
   obtain⟨c,q,M,a,k,ad,L,Y,F⟩:=hcut;have H:=yz ad;have OW:=yz F;obtain⟨d0,d1,d2,aC,aD⟩:=ad.rd;have c0:=bV (ad.cm);have r0:=dR (ad.out);have g0:=ik (ad.out);have bg:=ad.hc;clear ad F aE o;cases M
   ·have ac:=Y rfl;rw[ac]at HK HC;have HQ:=yz (yx au c q ac);obtain⟨ax,aJ⟩:=qk (yx OW);have cB:=yz (fun W hW=>eY c.S c.kind c.A c.B c.C c.D c.wd c.ht c.lv c.fo c.px a k W (by have:=pu ac;omega) hW);have HD:=yz ax;have HS:Hid (eJ ⟨c.kind,c.A,c.B,c.C,c.D,c.S,c.wd,c.ht,c.px,c.lv,c.fo⟩=eJ c):=yz rfl;rw[yx HS]at cB;generalize eJ c=bs at *;clear ax aJ ac L Y au HS;go_wp2_with fail;refine(yx cB _ (yx HD)).mono ?_;rintro e w3 ⟨rfl,hx⟩;have B3:=yz (ak (yx H).bel hx);have R3:=yz ((yx H).out.kept hx);have C3:=yz ((yx H).cm.kept hx);have O3:=yz (vY (yx OW) hx);clear hx cB HD H OW d0 d1 d2 aC aD c0 r0 g0;have c0:=bV (yx C3);have r0:=dR (yx R3);have g0:=ik (yx R3);by_cases aw:bs=s
    ·have hy:=(yx HQ).1 aw;try dsimp only at HK HC
     rw[if_pos hy]at HK HC;subst aw;clear HQ hy;go_wp2_with fail;clear c0 r0 g0;refine ϊ (uo _ _ w.1.size c (σ a c.S.length k) 0 rfl (gA (yx R3) rfl _ _ _ _ _ _ _ _ _ _ _ _)) rfl ⟨?_,?_⟩
     ·rw[yx ag,yx ah,yx HK,yx HC];refine⟨_,rfl,?_⟩;iterate 12 (refine gC ?_ (fun z B=>by have:=((yx O3).lt z B).1;omega) _ _)
      exact eW (yx O3) (by omega)
     ·iterate 12 (refine bw ?_ (ύ w.1.size) _ _)
      exact yx B3
    ·have hy:=fun h=>aw ((yx HQ).2 h);try dsimp only at HK HC
     rw[if_neg hy]at HK HC;have a6:=EU aw;clear HQ hy;go_wp2_with fail;clear c0 r0 g0;refine ϊ (uo _ _ w.1.size eI (σ ν 0 0) 3 rfl (gA (yx R3) rfl _ _ _ _ _ _ _ _ _ _ _ _)) rfl ⟨?_,?_⟩
     ·rw[yx ag,yx ah,yx HK,yx HC];exact ie _ _ 3
     ·iterate 12 (refine bw ?_ (ύ w.1.size) _ _)
      exact yx B3
   ·have ac:=L rfl;rw[ac]at HK HC;have B3:=yz (yx H).bel;have R3:=yz (yx H).out;clear L Y au ac H OW;go_wp2_with fail;clear c0 r0 g0;refine ϊ (uo _ _ w.1.size eI (σ ν 0 0) 3 rfl (gA (yx R3) rfl _ _ _ _ _ _ _ _ _ _ _ _)) rfl ⟨?_,?_⟩
    ·rw[yx ag,yx ah,yx HK,yx HC];exact ie _ _ 3
    ·iterate 12 (refine bw ?_ (ύ w.1.size) _ _)
     exact yx B3
 ·have be:(uc==0)=φ:=by simp[hu]
  have bf:(uc != 0)=θ:=by simp[hu]
  rw[if_neg hu]at HK HC;have r0:=dR (yx R1);have g0:=ik (yx R1);clear HM HZ aE;go_wp2_with fail;clear t0 r0 g0;refine ϊ (uo _ _ w.1.size eI (σ ν 0 0) uc rfl (gA (yx R1) rfl _ _ _ _ _ _ _ _ _ _ _ _)) rfl ⟨?_,?_⟩
  ·rw[yx ag,yx ah,yx HK,yx HC];exact ie _ _ uc
  ·iterate 12 (refine bw ?_ (ύ w.1.size) _ _)
   exact yx B1
end
theorem qh(s:ByteArray):(gK s).S.length<=6:=by
 unfold gK;split
 ·split
  ·simp[eI]
  ·rename_i c q h
   split
   ·exact pu h
   ·simp[eI]
 ·simp[eI]
section
theorem Jn:(prog.info? 267).map (fun i=>(i.zero,i.size,i.bytes))=ς (ς (κ #[J Z 0,J Z 0]),2,16):=by kernel_rfl
theorem Ik(f:Fr)(s:(Nat->Bool)×List Nat)(x y:Int):(dJ f s x y).2.length<=s.2.length+1:=by
 unfold dJ;split
 ·simp
 ·omega
theorem lS(f:Fr)(s:(Nat->Bool)×List Nat)(c r:Nat):∀m,(ce f s c r m).2.length<=s.2.length+m
 | 0=>ύ _
 | m+1=>by
  have a:=lS f s c r m;have b:=Ik f (ce f s c r m) (IJ c m) (IK r m);show (dJ f (ce f s c r m) (IJ c m) (IK r m)).2.length<=_;omega
theorem oo(a b c d e f g h:Int)(m:Nat)(W:ω)(x y:Int)(i:(m=0/\x=a/\y=b)\/(m=1/\x=c/\y=d)\/(m=2/\x=e/\y=f)\/(m=3/\x=g/\y=h)):
  (Instr.index 282 (κ #[J Z a,J Z b,J Z c,J Z d,J Z e,J Z f,J Z g,J Z h]) (J Z (m:Int))).run prog W=.ok (κ #[J Z x,J Z y]) W:=by
 rcases i with ⟨rfl,rfl,rfl⟩ | ⟨rfl,rfl,rfl⟩ | ⟨rfl,rfl,rfl⟩ | ⟨rfl,rfl,rfl⟩<;>kernel_rfl
structure dK (w wx:ω) (fb lb tb wd ht:Nat) (s:ByteArray) (lv:Int) (T:Nat->Bool) (v:μ) (A:List Nat):Prop where
 fr:Li wx fb wd ht s
 lev:Blk wx lb [J Z lv] 2
 taken:dC wx tb wd ht T
 found:wx.ownsRow (w.1.size+1) 267 2 v A.length (oL wd A)
 grown:w.grownBy wx (ς tb)
variable {s:ByteArray} {fb tb:Nat} {T:Nat->Bool} {v:μ} {w wx wy:ω}
theorem grownK{b:Option Nat}(h:w.grownBy wx b)(a:δ wx.1.size wx wy):w.grownBy wy b:=
 ⟨by rw[a.os];exact h.os,by rw[a.tape];exact h.tape,by rw[a.output];exact h.output,ώ h.size a.size,fun k d c=>by rw[a.block k (Ϗ d h.size)];exact h.block k d c⟩
theorem dK.kept{b d ht:Nat}{c:Int}{A:List Nat}(h:dK w wx fb b tb d ht s c T v A)(a:δ wx.1.size wx wy):dK w wy fb b tb d ht s c T v A:=
 ⟨Blk.kept h.fr a,h.lev.kept a,h.taken.kept a,bj h.found a,grownK h.grown a⟩
theorem dK.took{f g c:Nat}{l:Int}{i:Nat->Bool}{A:List Nat}(h:dK w wx fb f tb g c s l T v A)(a:wx.grownBy wy (ς tb))(d:dC wy tb g c i)(m:fb≠tb)(n:f≠tb)(p:tb<w.1.size):dK w wy fb f tb g c s l i v A:=by
 refine⟨Blk.grown h.fr a (fun e=>m (ό e)),h.lev.grown a (fun e=>n (ό e)),d,h.found.kept a ?_,⟨a.os.trans h.grown.os,a.tape.trans h.grown.tape,a.output.trans h.grown.output,ώ h.grown.size a.size,fun k j b=>by rw[a.block k (Ϗ j h.grown.size) b];exact h.grown.block k j b⟩⟩;cases o:v.ownBlock with
 | none=>exact .inl rfl
 | some z=>exact .inr (fun e=>by have:=(h.found.lt z o).1;have:=ό e;omega)
theorem dK.appended{l c o q:Nat}{p:Int}{r:μ}{A:List Nat}{m:List μ}(h:dK w wx fb l tb c o s p T v A)(a:wx.grownBy wy v.ownBlock)(t:wy.ownsRow (w.1.size+1) 267 2 r (A.length+1) (oL c A ++ m))(j:Kh c q=m)(x:fb<w.1.size)(y:l<w.1.size)(z:tb<w.1.size):dK w wy fb l tb c o s p T r (A ++ [q]):=by
 have d:∀b,b<w.1.size+1->ς b≠v.ownBlock:=fun b B e=>by have:=(h.found.lt b e.symm).1;omega
 obtain⟨g,u,f⟩:=h.taken;refine⟨Blk.grown h.fr a (d _ (by omega)),h.lev.grown a (d _ (by omega)),⟨g,u.grown a (d _ (by omega)),f⟩,?_,⟨a.os.trans h.grown.os,a.tape.trans h.grown.tape,a.output.trans h.grown.output,ώ h.grown.size a.size,fun k n i=>by rw[a.block k (Ϗ n h.grown.size) (d k (by omega))];exact h.grown.block k n i⟩⟩;rw[Ki,List.length_append];have e:oL c [q]=m:=by unfold oL;simp[j]
 rw[e];exact t
theorem AS(x y:Nat)(fb lb F d E:Nat)(s:ByteArray)(lv:Int)(T:Nat->Bool)(w:ω)(hw:d<=16)(hh:E<=12)(hs:s.size=d*E)(hx:x<d)(hy:y<E)(al:T (y*d+x)=φ)(n1:fb≠F)(n2:lb≠F)(hF:Li w fb d E s)(hL:Blk w lb [J Z lv] 2)(hT:dC w F d E T):
  χ prog 210 #[κ #[J Z x,J Z y],.func (.func 205) #[] #[π (ς ⟨fb,0,ν⟩),π (ς ⟨lb,0,ν⟩),π (ς ⟨F,0,ν⟩)],.func (.func 208) #[] #[π (ς ⟨F,0,ν⟩)]] w fun e w'=>∃v,e=ρ v/\dK w w' fb lb F d E s lv (gO (jr d E s lv) T (y*d+x)).1 v (gO (jr d E s lv) T (y*d+x)).2:=by
 obtain⟨i0,af,au,av,aw⟩:=info_parts Jn;have a9:400<=maxLen:=by decide +kernel
 have lf:=Blk.lt hF;have ll:=hL.lt;have lt:=hT.lt;have ag:=yz hs;have a0:s.size<=192:=by rw[hs];exact Nat.mul_le_mul hw hh
 have hi:y*d+x<s.size:=by
  rw[hs];have:=Nat.mul_le_mul_left d (show y+1<=E by omega);rw[Nat.mul_add,Nat.mul_one,Nat.mul_comm d y]at this;omega
 have aD:Kh d (y*d+x)=[J Z (x:Int),J Z (y:Int)]:=wm (ht:=E) (x:=(x:Int)) (y:=(y:Int)) (decide_eq_true (by omega));have A0:=aq w [J Z (x:Int),J Z (y:Int)] 267;have B0:=an w (ξ #[J Z (x:Int),J Z (y:Int)] 267);have F0:=Blk.kept hF B0;have L0:=Blk.kept hL B0;have T0:=hT.kept B0;have G0:w.grownBy _ (ς F):=⟨B0.os,B0.tape,B0.output,B0.size,fun k hk _=>B0.block k hk⟩
 have hz:(w.alloc (ξ #[J Z (x:Int),J Z (y:Int)] 267)).1.size=w.1.size+1:=by simp
 clear hF hL hT B0 hs;go_enter func210,ntmps210;go_wp2_with fail;generalize w.alloc (ξ #[J Z (x:Int),J Z (y:Int)] 267)=W0 at A0 F0 L0 T0 G0 hz ⊢;refine(Dq x y F d E T W0 hw hh hx hy T0).mono ?_;rintro e W1 ⟨rfl,az,Y⟩;have a1:=Y.size;have A1:=A0.grown Y (by simp;omega);have F1:=Blk.grown F0 Y (by simp;omega);have L1:=L0.grown Y (by simp;omega);have G1:w.grownBy W1 (ς F):=⟨Y.os.trans G0.os,Y.tape.trans G0.tape,Y.output.trans G0.output,ώ G0.size Y.size,fun k hk aN=>by rw[Y.block k (Ϗ hk G0.size) aN];exact G0.block k hk aN⟩
 have P:=A1.cell 0 _ rfl;have Q:=A1.cell 1 _ rfl;have O:=an W1 (ξ #[J Z (x:Int),J Z (y:Int)] 267);obtain⟨i,aA⟩:∃i,i=y*d+x:=⟨_,rfl⟩
 have aQ:=yz aA;rw[<-aA]at az hi aD al
 have HO:(W1.alloc (ξ #[J Z (x:Int),J Z (y:Int)] 267)).ownsRow (w.1.size+1) 267 2 (σ (ς ⟨W1.1.size,0,ν⟩) 1 1) 1 (oL d [i]):=by
  have h:=World.ownsRow_lit (base:=w.1.size+1) (e:=267) (size:=2) W1 #[J Z (x:Int),J Z (y:Int)] 1 (by omega) (by omega) rfl;have e:oL d [i]=[J Z (x:Int),J Z (y:Int)]:=by unfold oL;simp[aD]
  rw[e];exact h
 have aK:Hid (dK w (W1.alloc (ξ #[J Z (x:Int),J Z (y:Int)] 267)) fb lb F d E s lv (mark T i) (σ (ς ⟨W1.1.size,0,ν⟩) 1 1) [i]):=yz ⟨Blk.kept F1 O,L1.kept O,az.kept O,HO,grownK G1 O⟩;clear aA A0 F0 L0 T0 G0 A1 F1 L1 G1 O HO az Y aD;generalize aL:jr d E s lv=f;have HF:=yz aL;clear aL;have aM:f.n=s.size:=by rw[<-yx HF];exact(yx ag).symm
 have ah:=yz aM;clear aM;have ai:Hid (∀k,xh f (cnt T f.n) (bi f T i k)):=yz (fun k=>ms (by rw[yx ah];exact hi) al k);have aH:Hid (∀k,(bi f T i k).2.length<=s.size):=yz (fun k=>by have:=(yx ai k).len;rw[yx ah]at this;omega);have aR:=yz al;clear al;go_wp2_with fail;clear P Q;go_loopw [7,8] (fun v kk wr=>∃k:Nat,k<=(bi f T i k).2.length/\kk=J Z k/\Hid (dK w wr fb lb F d E s lv (bi f T i k).1 v (bi f T i k).2)) (fun _ kk _=>s.size-(ϋ kk).toNat)
 case atStart=>exact⟨0,Nat.zero_le _,rfl,aK⟩
 case round=>
  clear aK;obtain⟨k,hk,rfl,n⟩:=hrel;have a8:=yx aH k;by_cases ao:k<(bi f T i k).2.length
  ·have aO:(bi f T i k).2.getD k 0∈(bi f T i k).2:=by rw[List.getD,List.getElem?_eq_getElem ao];exact List.getElem_mem ao
   have ar:=(yx ai k).lies _ aO;have aI:Hid (bi f T i (k+1)=gu f (bi f T i k) (lh f ((bi f T i k).2.getD k 0))):=yz (by rw[bi,if_pos ao]);have aJ:=yz (yq f T i k);obtain⟨e0,e1⟩:=FP d (bi f T i k).2 k ao;obtain⟨a7,ay,aE⟩:=cy (yx n).found;subst aE;have am:=(yx n).found
   obtain⟨g7,aT⟩:∃g,a7=ς ⟨g,0,ν⟩:=by
    rcases am.2 with ⟨h1,h0⟩ | ⟨g,a2,a3,h1,_⟩
    ·omega
    ·injection h1 with h1 _ _;exact⟨g,h1⟩
   subst aT;have P:wr.cell? ⟨g7,k*2,ν⟩=_:=(am.cellAt (k*2) (by omega)).trans e0;have Q:wr.cell? ⟨g7,k*2+1,ν⟩=_:=(am.cellAt (k*2+1) (by omega)).trans e1;clear am e0 e1 aO;generalize aS:bi f T i k=G at *;clear aS;obtain⟨B,A⟩:=G;simp only at *;generalize A.getD k 0=p at *;have aj:=yz (Kv ar (B,A));obtain⟨c,hc⟩:∃c,c=p % d:=⟨_,rfl⟩
   obtain⟨r,hr⟩:∃r,r=p / d:=⟨_,rfl⟩
   rw[<-hc]at P;rw[<-hr]at Q
   have ak:Hid (ce f (B,A) c r 4=bi f T i (k+1)):=yz (by
    rw[yx aI,<-yx aj,hc,hr,<-yx HF];rfl)
   have a4:c<d:=by rw[hc];exact Nat.mod_lt _ (by omega)
   have bb:r<E:=by
    rw[hr];rw[yx ah,yx ag]at ar;exact Nat.div_lt_of_lt_mul ar
   clear hc hr aj aI ar;have a5:(k:Int)<(A.length:Int):=by omega
   go_wp2_with fail;refine(DN c r _ (by omega) (by omega)).mono ?_;rintro e W2 ⟨rfl,aP⟩;have ax:Hid (dK w W2 fb lb F d E s lv (ce f (B,A) c r 0).1 (σ (ς ⟨g7,0,ν⟩) A.length ay) (ce f (B,A) c r 0).2):=ap n aP;clear n aP P Q;go_wp2;go_loopw [7,27] (fun v mm wr=>∃m:Nat,m<=4/\mm=J Z m/\Hid (dK w wr fb lb F d E s lv (ce f (B,A) c r m).1 v (ce f (B,A) c r m).2)) (fun _ mm _=>4-(ϋ mm).toNat)
   case atStart=>exact⟨0,by omega,rfl,ax⟩
   case round=>
    clear ax;obtain⟨m,hm,rfl,n⟩:=hrel;have ba:F<wr.1.size:=(yx n).taken.lt;rcases(show m=0\/m=1\/m=2\/m=3\/m=4 by omega) with aV | aW | aX | aY | aZ
    ·subst aV;have aB:∀W:ω,(Instr.index 282 (κ #[J Z ((c:Int)-1),J Z (r:Int),J Z ((c:Int)+1),J Z (r:Int),J Z (c:Int),J Z ((r:Int)-1),J Z (c:Int),J Z ((r:Int)+1)]) (J Z 0)).run prog W=.ok (κ #[J Z ((c:Int)-1),J Z ((r:Int))]) W:=fun W=>oo _ _ _ _ _ _ _ _ 0 W _ _ (by simp) ;have HS:Hid (ce f (B,A) c r (0+1)=dJ f (ce f (B,A) c r 0) ((c:Int)-1) ((r:Int))):=yz rfl;have M:=lS f (B,A) c r 0;simp only at M;generalize ce f (B,A) c r 0=S2 at n HS M;obtain⟨S,A2⟩:=S2;simp only at n M;have O:=an wr (ξ #[J Z ((c:Int)-1),J Z ((r:Int))] 267);have R:=aq wr [J Z ((c:Int)-1),J Z ((r:Int))] 267;have I:=(yx n).kept O;clear O n;go_upto_region 9 with fail;generalize ac:wr.alloc (ξ #[J Z ((c:Int)-1),J Z ((r:Int))] 267)=W3 at R I ⊢;generalize ad:wr.1.size=pb at R ⊢;have X:F≠pb:=by omega
     clear ac ad;have o:=yz I;have hP:=yz R;have P:=R.cell 0 _ rfl;have Q:=R.cell 1 _ rfl;clear I R;go_wp2_with fail;refine(qz ((c:Int)-1) ((r:Int)) fb lb F d E s lv S _ hw hh (yx ag) (yx o).fr (yx o).lev (yx o).taken).mono ?_;rintro e W4 ⟨rfl,N⟩;rw[Ah,yx HF];have C:=ap o N;have P4:=ap hP N;clear o hP N P Q;cases V:xD f S ((c:Int)-1) ((r:Int))
     ·have H:Hid (ce f (B,A) c r (0+1)=(S,A2)):=yz (by rw[yx HS];unfold dJ;rw[if_neg (by simp[V])]);have D:Hid (dK w W4 fb lb F d E s lv (ce f (B,A) c r (0+1)).1 u7 (ce f (B,A) c r (0+1)).2):=yz (by rw[yx H];exact yx C);clear V;go_wp2;go_roundw
      case rel=>exact⟨0+1,by omega,by go_num,D⟩
      case measure=>simp[ϋ]<;>omega
     ·have b:=my V;have a:fG d E ((c:Int)-1) ((r:Int))=θ:=by rw[<-yx HF]at b;exact b
      have aa:=yz (wm a);have H:Hid (ce f (B,A) c r (0+1)=(mark S (((r:Int):Int).toNat*d+((c:Int)-1:Int).toNat),A2 ++ [((r:Int):Int).toNat*d+((c:Int)-1:Int).toNat])):=yz (by rw[yx HS];unfold dJ;rw[if_pos V,<-yx HF];rfl);have cK:=yz (fun (W:ω) hW=>rg ((c:Int)-1) ((r:Int)) F d E S W hw hh a hW);clear V b a;generalize ae:((r:Int):Int).toNat*d+((c:Int)-1:Int).toNat=q at *;clear ae;have P:=(yx P4).cell 0 _ rfl;have Q:=(yx P4).cell 1 _ rfl;go_wp2_with fail;refine(yx cK _ (yx C).taken).mono ?_;rintro e W5 ⟨rfl,U,L⟩;have D:=yz ((yx C).took L U n1 n2 lt);have P5:Hid (Blk W5 pb [J Z ((c:Int)-1),J Z ((r:Int))] 267):=yz ((yx P4).grown L (fun e=>X (ό e).symm));clear U L C P4 P Q;have P:=(yx P5).cell 0 _ rfl;have Q:=(yx P5).cell 1 _ rfl;have O:=an W5 (ξ #[J Z ((c:Int)-1),J Z ((r:Int))] 267);have K:=(yx D).kept O;have t:=K.found;have aF:=(yx D).grown.size;clear O;go_wp2_with (at_builtin;refine wpList_append_own _ rfl _ _ 272 rfl (w.1.size+1) 267 i0 (κ #[J Z 0,J Z 0]) 2 16 underlying272 af au av aw rfl (by decide) _ _ _ rfl t ⟨W5.1.size,0,ν⟩ 1 1 [J Z ((c:Int)-1),J Z ((r:Int))] rfl rfl ?d2 (fun u hu=>by simp at hu;rcases hu with rfl | rfl<;>rfl) ?d3 ?d4 ?d5 ?_)
      case d2=>first | exact fun j u h=>h | exact gp _ _ _
      case d3=>omega
      case d4=>omega
      case d5=>first | (have:=t.lt;have:=(yx P5).lt;omega) | (simp;have:=(yx P5).lt;omega)
      intro v7 V7 z l _;have ab:Hid (dK w V7 fb lb F d E s lv (ce f (B,A) c r (0+1)).1 v7 (ce f (B,A) c r (0+1)).2):=yz (by rw[yx H];exact K.appended l z (yx aa) lf ll lt);clear z l t K P Q;go_wp2;go_roundw
      case rel=>exact⟨0+1,by omega,by go_num,ab⟩
      case measure=>simp[ϋ]<;>omega
    ·subst aW;have aB:∀W:ω,(Instr.index 282 (κ #[J Z ((c:Int)-1),J Z (r:Int),J Z ((c:Int)+1),J Z (r:Int),J Z (c:Int),J Z ((r:Int)-1),J Z (c:Int),J Z ((r:Int)+1)]) (J Z 1)).run prog W=.ok (κ #[J Z ((c:Int)+1),J Z ((r:Int))]) W:=fun W=>oo _ _ _ _ _ _ _ _ 1 W _ _ (by simp) ;have HS:Hid (ce f (B,A) c r (1+1)=dJ f (ce f (B,A) c r 1) ((c:Int)+1) ((r:Int))):=yz rfl;have M:=lS f (B,A) c r 1;simp only at M;generalize ce f (B,A) c r 1=S2 at n HS M;obtain⟨S,A2⟩:=S2;simp only at n M;have O:=an wr (ξ #[J Z ((c:Int)+1),J Z ((r:Int))] 267);have R:=aq wr [J Z ((c:Int)+1),J Z ((r:Int))] 267;have I:=(yx n).kept O;clear O n;go_upto_region 9 with fail;generalize ac:wr.alloc (ξ #[J Z ((c:Int)+1),J Z ((r:Int))] 267)=W3 at R I ⊢;generalize ad:wr.1.size=pb at R ⊢;have X:F≠pb:=by omega
     clear ac ad;have o:=yz I;have hP:=yz R;have P:=R.cell 0 _ rfl;have Q:=R.cell 1 _ rfl;clear I R;go_wp2_with fail;refine(qz ((c:Int)+1) ((r:Int)) fb lb F d E s lv S _ hw hh (yx ag) (yx o).fr (yx o).lev (yx o).taken).mono ?_;rintro e W4 ⟨rfl,N⟩;rw[Ah,yx HF];have C:=ap o N;have P4:=ap hP N;clear o hP N P Q;cases V:xD f S ((c:Int)+1) ((r:Int))
     ·have H:Hid (ce f (B,A) c r (1+1)=(S,A2)):=yz (by rw[yx HS];unfold dJ;rw[if_neg (by simp[V])]);have D:Hid (dK w W4 fb lb F d E s lv (ce f (B,A) c r (1+1)).1 u7 (ce f (B,A) c r (1+1)).2):=yz (by rw[yx H];exact yx C);clear V;go_wp2;go_roundw
      case rel=>exact⟨1+1,by omega,by go_num,D⟩
      case measure=>simp[ϋ]<;>omega
     ·have b:=my V;have a:fG d E ((c:Int)+1) ((r:Int))=θ:=by rw[<-yx HF]at b;exact b
      have aa:=yz (wm a);have H:Hid (ce f (B,A) c r (1+1)=(mark S (((r:Int):Int).toNat*d+((c:Int)+1:Int).toNat),A2 ++ [((r:Int):Int).toNat*d+((c:Int)+1:Int).toNat])):=yz (by rw[yx HS];unfold dJ;rw[if_pos V,<-yx HF];rfl);have cK:=yz (fun (W:ω) hW=>rg ((c:Int)+1) ((r:Int)) F d E S W hw hh a hW);clear V b a;generalize ae:((r:Int):Int).toNat*d+((c:Int)+1:Int).toNat=q at *;clear ae;have P:=(yx P4).cell 0 _ rfl;have Q:=(yx P4).cell 1 _ rfl;go_wp2_with fail;refine(yx cK _ (yx C).taken).mono ?_;rintro e W5 ⟨rfl,U,L⟩;have D:=yz ((yx C).took L U n1 n2 lt);have P5:Hid (Blk W5 pb [J Z ((c:Int)+1),J Z ((r:Int))] 267):=yz ((yx P4).grown L (fun e=>X (ό e).symm));clear U L C P4 P Q;have P:=(yx P5).cell 0 _ rfl;have Q:=(yx P5).cell 1 _ rfl;have O:=an W5 (ξ #[J Z ((c:Int)+1),J Z ((r:Int))] 267);have K:=(yx D).kept O;have t:=K.found;have aF:=(yx D).grown.size;clear O;go_wp2_with (at_builtin;refine wpList_append_own _ rfl _ _ 272 rfl (w.1.size+1) 267 i0 (κ #[J Z 0,J Z 0]) 2 16 underlying272 af au av aw rfl (by decide) _ _ _ rfl t ⟨W5.1.size,0,ν⟩ 1 1 [J Z ((c:Int)+1),J Z ((r:Int))] rfl rfl ?d2 (fun u hu=>by simp at hu;rcases hu with rfl | rfl<;>rfl) ?d3 ?d4 ?d5 ?_)
      case d2=>first | exact fun j u h=>h | exact gp _ _ _
      case d3=>omega
      case d4=>omega
      case d5=>first | (have:=t.lt;have:=(yx P5).lt;omega) | (simp;have:=(yx P5).lt;omega)
      intro v7 V7 z l _;have ab:Hid (dK w V7 fb lb F d E s lv (ce f (B,A) c r (1+1)).1 v7 (ce f (B,A) c r (1+1)).2):=yz (by rw[yx H];exact K.appended l z (yx aa) lf ll lt);clear z l t K P Q;go_wp2;go_roundw
      case rel=>exact⟨1+1,by omega,by go_num,ab⟩
      case measure=>simp[ϋ]<;>omega
    ·subst aX;have aB:∀W:ω,(Instr.index 282 (κ #[J Z ((c:Int)-1),J Z (r:Int),J Z ((c:Int)+1),J Z (r:Int),J Z (c:Int),J Z ((r:Int)-1),J Z (c:Int),J Z ((r:Int)+1)]) (J Z 2)).run prog W=.ok (κ #[J Z ((c:Int)),J Z ((r:Int)-1)]) W:=fun W=>oo _ _ _ _ _ _ _ _ 2 W _ _ (by simp) ;have HS:Hid (ce f (B,A) c r (2+1)=dJ f (ce f (B,A) c r 2) ((c:Int)) ((r:Int)-1)):=yz rfl;have M:=lS f (B,A) c r 2;simp only at M;generalize ce f (B,A) c r 2=S2 at n HS M;obtain⟨S,A2⟩:=S2;simp only at n M;have O:=an wr (ξ #[J Z ((c:Int)),J Z ((r:Int)-1)] 267);have R:=aq wr [J Z ((c:Int)),J Z ((r:Int)-1)] 267;have I:=(yx n).kept O;clear O n;go_upto_region 9 with fail;generalize ac:wr.alloc (ξ #[J Z ((c:Int)),J Z ((r:Int)-1)] 267)=W3 at R I ⊢;generalize ad:wr.1.size=pb at R ⊢;have X:F≠pb:=by omega
     clear ac ad;have o:=yz I;have hP:=yz R;have P:=R.cell 0 _ rfl;have Q:=R.cell 1 _ rfl;clear I R;go_wp2_with fail;refine(qz ((c:Int)) ((r:Int)-1) fb lb F d E s lv S _ hw hh (yx ag) (yx o).fr (yx o).lev (yx o).taken).mono ?_;rintro e W4 ⟨rfl,N⟩;rw[Ah,yx HF];have C:=ap o N;have P4:=ap hP N;clear o hP N P Q;cases V:xD f S ((c:Int)) ((r:Int)-1)
     ·have H:Hid (ce f (B,A) c r (2+1)=(S,A2)):=yz (by rw[yx HS];unfold dJ;rw[if_neg (by simp[V])]);have D:Hid (dK w W4 fb lb F d E s lv (ce f (B,A) c r (2+1)).1 u7 (ce f (B,A) c r (2+1)).2):=yz (by rw[yx H];exact yx C);clear V;go_wp2;go_roundw
      case rel=>exact⟨2+1,by omega,by go_num,D⟩
      case measure=>simp[ϋ]<;>omega
     ·have b:=my V;have a:fG d E ((c:Int)) ((r:Int)-1)=θ:=by rw[<-yx HF]at b;exact b
      have aa:=yz (wm a);have H:Hid (ce f (B,A) c r (2+1)=(mark S (((r:Int)-1:Int).toNat*d+((c:Int):Int).toNat),A2 ++ [((r:Int)-1:Int).toNat*d+((c:Int):Int).toNat])):=yz (by rw[yx HS];unfold dJ;rw[if_pos V,<-yx HF];rfl);have cK:=yz (fun (W:ω) hW=>rg ((c:Int)) ((r:Int)-1) F d E S W hw hh a hW);clear V b a;generalize ae:((r:Int)-1:Int).toNat*d+((c:Int):Int).toNat=q at *;clear ae;have P:=(yx P4).cell 0 _ rfl;have Q:=(yx P4).cell 1 _ rfl;go_wp2_with fail;refine(yx cK _ (yx C).taken).mono ?_;rintro e W5 ⟨rfl,U,L⟩;have D:=yz ((yx C).took L U n1 n2 lt);have P5:Hid (Blk W5 pb [J Z ((c:Int)),J Z ((r:Int)-1)] 267):=yz ((yx P4).grown L (fun e=>X (ό e).symm));clear U L C P4 P Q;have P:=(yx P5).cell 0 _ rfl;have Q:=(yx P5).cell 1 _ rfl;have O:=an W5 (ξ #[J Z ((c:Int)),J Z ((r:Int)-1)] 267);have K:=(yx D).kept O;have t:=K.found;have aF:=(yx D).grown.size;clear O;go_wp2_with (at_builtin;refine wpList_append_own _ rfl _ _ 272 rfl (w.1.size+1) 267 i0 (κ #[J Z 0,J Z 0]) 2 16 underlying272 af au av aw rfl (by decide) _ _ _ rfl t ⟨W5.1.size,0,ν⟩ 1 1 [J Z ((c:Int)),J Z ((r:Int)-1)] rfl rfl ?d2 (fun u hu=>by simp at hu;rcases hu with rfl | rfl<;>rfl) ?d3 ?d4 ?d5 ?_)
      case d2=>first | exact fun j u h=>h | exact gp _ _ _
      case d3=>omega
      case d4=>omega
      case d5=>first | (have:=t.lt;have:=(yx P5).lt;omega) | (simp;have:=(yx P5).lt;omega)
      intro v7 V7 z l _;have ab:Hid (dK w V7 fb lb F d E s lv (ce f (B,A) c r (2+1)).1 v7 (ce f (B,A) c r (2+1)).2):=yz (by rw[yx H];exact K.appended l z (yx aa) lf ll lt);clear z l t K P Q;go_wp2;go_roundw
      case rel=>exact⟨2+1,by omega,by go_num,ab⟩
      case measure=>simp[ϋ]<;>omega
    ·subst aY;have aB:∀W:ω,(Instr.index 282 (κ #[J Z ((c:Int)-1),J Z (r:Int),J Z ((c:Int)+1),J Z (r:Int),J Z (c:Int),J Z ((r:Int)-1),J Z (c:Int),J Z ((r:Int)+1)]) (J Z 3)).run prog W=.ok (κ #[J Z ((c:Int)),J Z ((r:Int)+1)]) W:=fun W=>oo _ _ _ _ _ _ _ _ 3 W _ _ (by simp) ;have HS:Hid (ce f (B,A) c r (3+1)=dJ f (ce f (B,A) c r 3) ((c:Int)) ((r:Int)+1)):=yz rfl;have M:=lS f (B,A) c r 3;simp only at M;generalize ce f (B,A) c r 3=S2 at n HS M;obtain⟨S,A2⟩:=S2;simp only at n M;have O:=an wr (ξ #[J Z ((c:Int)),J Z ((r:Int)+1)] 267);have R:=aq wr [J Z ((c:Int)),J Z ((r:Int)+1)] 267;have I:=(yx n).kept O;clear O n;go_upto_region 9 with fail;generalize ac:wr.alloc (ξ #[J Z ((c:Int)),J Z ((r:Int)+1)] 267)=W3 at R I ⊢;generalize ad:wr.1.size=pb at R ⊢;have X:F≠pb:=by omega
     clear ac ad;have o:=yz I;have hP:=yz R;have P:=R.cell 0 _ rfl;have Q:=R.cell 1 _ rfl;clear I R;go_wp2_with fail;refine(qz ((c:Int)) ((r:Int)+1) fb lb F d E s lv S _ hw hh (yx ag) (yx o).fr (yx o).lev (yx o).taken).mono ?_;rintro e W4 ⟨rfl,N⟩;rw[Ah,yx HF];have C:=ap o N;have P4:=ap hP N;clear o hP N P Q;cases V:xD f S ((c:Int)) ((r:Int)+1)
     ·have H:Hid (ce f (B,A) c r (3+1)=(S,A2)):=yz (by rw[yx HS];unfold dJ;rw[if_neg (by simp[V])]);have D:Hid (dK w W4 fb lb F d E s lv (ce f (B,A) c r (3+1)).1 u7 (ce f (B,A) c r (3+1)).2):=yz (by rw[yx H];exact yx C);clear V;go_wp2;go_roundw
      case rel=>exact⟨3+1,by omega,by go_num,D⟩
      case measure=>simp[ϋ]<;>omega
     ·have b:=my V;have a:fG d E ((c:Int)) ((r:Int)+1)=θ:=by rw[<-yx HF]at b;exact b
      have aa:=yz (wm a);have H:Hid (ce f (B,A) c r (3+1)=(mark S (((r:Int)+1:Int).toNat*d+((c:Int):Int).toNat),A2 ++ [((r:Int)+1:Int).toNat*d+((c:Int):Int).toNat])):=yz (by rw[yx HS];unfold dJ;rw[if_pos V,<-yx HF];rfl);have cK:=yz (fun (W:ω) hW=>rg ((c:Int)) ((r:Int)+1) F d E S W hw hh a hW);clear V b a;generalize ae:((r:Int)+1:Int).toNat*d+((c:Int):Int).toNat=q at *;clear ae;have P:=(yx P4).cell 0 _ rfl;have Q:=(yx P4).cell 1 _ rfl;go_wp2_with fail;refine(yx cK _ (yx C).taken).mono ?_;rintro e W5 ⟨rfl,U,L⟩;have D:=yz ((yx C).took L U n1 n2 lt);have P5:Hid (Blk W5 pb [J Z ((c:Int)),J Z ((r:Int)+1)] 267):=yz ((yx P4).grown L (fun e=>X (ό e).symm));clear U L C P4 P Q;have P:=(yx P5).cell 0 _ rfl;have Q:=(yx P5).cell 1 _ rfl;have O:=an W5 (ξ #[J Z ((c:Int)),J Z ((r:Int)+1)] 267);have K:=(yx D).kept O;have t:=K.found;have aF:=(yx D).grown.size;clear O;go_wp2_with (at_builtin;refine wpList_append_own _ rfl _ _ 272 rfl (w.1.size+1) 267 i0 (κ #[J Z 0,J Z 0]) 2 16 underlying272 af au av aw rfl (by decide) _ _ _ rfl t ⟨W5.1.size,0,ν⟩ 1 1 [J Z ((c:Int)),J Z ((r:Int)+1)] rfl rfl ?d2 (fun u hu=>by simp at hu;rcases hu with rfl | rfl<;>rfl) ?d3 ?d4 ?d5 ?_)
      case d2=>first | exact fun j u h=>h | exact gp _ _ _
      case d3=>omega
      case d4=>omega
      case d5=>first | (have:=t.lt;have:=(yx P5).lt;omega) | (simp;have:=(yx P5).lt;omega)
      intro v7 V7 z l _;have ab:Hid (dK w V7 fb lb F d E s lv (ce f (B,A) c r (3+1)).1 v7 (ce f (B,A) c r (3+1)).2):=yz (by rw[yx H];exact K.appended l z (yx aa) lf ll lt);clear z l t K P Q;go_wp2;go_roundw
      case rel=>exact⟨3+1,by omega,by go_num,ab⟩
      case measure=>simp[ϋ]<;>omega
    ·subst aZ;rw[yx ak]at n
     have aC:k+1<=(bi f T i (k+1)).2.length:=by
      have:=(yx aJ).length_le;omega
     go_wp2;go_roundw
     case rel=>exact⟨k+1,aC,by go_num,n⟩
     case measure=>simp[ϋ]<;>omega
  ·have aU:(bi f T i k).2.length<=k:=by omega
   have aG:Hid (bi f T i k=gO f T i):=yz (yc (by rw[yx ah];exact hi) (yx aR) aU (by rw[yx ah];omega));have a6:¬(k:Int)<((bi f T i k).2.length:Int):=by omega
   obtain⟨a7,ay,aE⟩:=cy (yx n).found;subst aE;go_wp2;go_ret;exact⟨_,rfl,by rw[yx HF,<-yx aQ,<-yx aG];exact yx n⟩
end
end Go.Proofs.YtnnhjegapofopaaGreatDoor
